/- Texts of a proof, laid together: Mathematics of a legal step: its board is valid, it can be undone, the pips change as the document says. The plays of a roll: mathematics. Contracts of the model's comparison of boards and of its search for a board. -/
import Derived.Test.YtknkbhmgdddjkaaGreatY09
import Derived.Test.YtknkbhmgdddjkaaGreatY08
import Derived.Test.YtknkbhmgdddjkaaGreatY01
import Derived.BigQuiet
namespace Go.Proofs.YtknkbhmgdddjkaaGreat
open Go.ChangeShapes Go.WideShapes Go.ChangeAt Go.RowKit
set_option linter.unusedVariables false
set_option linter.unusedSimpArgs false
set_option maxRecDepth 4000

theorem getD_set (l : List Int) {i : Nat} (j : Nat) (v : Int) (hi : i < l.length) : (l.set i v).getD j 0 = if j = i then v else l.getD j 0 := by
  by_cases h : j = i
  · rw [if_pos h, h]
    exact getD_set_eq l v hi
  · rw [if_neg h]
    exact getD_set_ne l v h
theorem sum_set : ∀ (l : List Int) (i : Nat) (v : Int), i < l.length → (l.set i v).sum = l.sum - l.getD i 0 + v
  | [], i, v, h => by simp at h
  | x :: l, 0, v, h => by simp; omega
  | x :: l, i + 1, v, h => by
    have ih := sum_set l i v (by simpa using h)
    rw [List.set_cons_succ, List.sum_cons, List.sum_cons, ih, List.getD_cons_succ]
    omega
theorem pips_set (l : List Int) (i : Nat) (v : Int) (hi : i < l.length) : ∀ n : Nat, pipsL (l.set i v) n = pipsL l n + (if i < n then ((i : Int) + 1) * (v - l.getD i 0) else 0)
  | 0 => by simp [pipsL]
  | n + 1 => by
    have ih := pips_set l i v hi n
    rw [pipsL, pipsL, ih, getD_set l n v hi]
    by_cases h : n = i
    · subst h
      rw [if_pos rfl, if_neg (by omega), if_pos (by omega), Int.mul_sub]
      omega
    · rw [if_neg h]
      by_cases h2 : i < n
      · rw [if_pos h2, if_pos (by omega)]
        omega
      · rw [if_neg h2, if_neg (by omega)]
        omega
theorem elem_le_sum : ∀ (l : List Int), (∀ x ∈ l, 0 ≤ x) → ∀ x ∈ l, x ≤ l.sum
  | [], _, x, h => by simp at h
  | y :: l, h0, x, h => by
    have hs : 0 ≤ l.sum := by
      have : ∀ (m : List Int), (∀ x ∈ m, 0 ≤ x) → 0 ≤ m.sum := by
        intro m
        induction m with
        | nil => simp
        | cons a m ih =>
          intro hm
          have := hm a (by simp)
          have := ih (fun x hx => hm x (by simp [hx]))
          simp
          omega
      exact this l (fun x hx => h0 x (by simp [hx]))
    have hy := h0 y (by simp)
    rw [List.sum_cons]
    rcases List.mem_cons.1 h with rfl | h
    · omega
    · have := elem_le_sum l (fun x hx => h0 x (by simp [hx])) x h
      omega
theorem lastL_zero {l : List Int} (h : ∀ j, l.getD j 0 = 0) : ∀ n, lastL l n = -1
  | 0 => rfl
  | n + 1 => by rw [lastL_not (h n), lastL_zero h n]
theorem side_of {p c : Int} {l : List Int} (hl : (l.length : Int) = p + 1) (h0 : ∀ j, 0 ≤ l.getD j 0) (hs : l.sum ≤ c) : sideB p c l = true := by
  have hm : ∀ x ∈ l, 0 ≤ x := by
    intro x hx
    obtain ⟨j, hj, rfl⟩ := List.getElem_of_mem hx
    have := h0 j
    rw [List.getD_eq_getElem?_getD, List.getElem?_eq_getElem hj] at this
    simpa using this
  exact sideB_iff.2 ⟨hl, fun x hx => ⟨hm x hx, Int.le_trans (elem_le_sum l hm x hx) hs⟩, hs⟩
/-- What a legal step is, in numbers. -/
theorem leg_parts {P : Nat} {c h s : Int} {xs ys : List Int} {a b d : Int} {q : Bool} (g : isB (P : Int) c h s xs ys = true) (gl : legB P h s xs ys (a, b, d, q) = true) :
    ∃ f : Nat, a = (f : Int) ∧ f ≤ P ∧ 1 ≤ d ∧ d ≤ s ∧ 1 ≤ xs.getD f 0 ∧ 1 ≤ ys.sum ∧ ((b = -1 ∧ q = false ∧ (f : Int) < d) ∨ ∃ t : Nat, b = (t : Int) ∧ t < P ∧ ¬ t = f ∧ (t : Int) = (f : Int) - d ∧ ys.getD (P - 1 - t) 0 ≤ 1 ∧ q = decide (0 < ys.getD (P - 1 - t) 0)) := by
  obtain ⟨f, rfl, fP, hc⟩ := legB_form gl
  obtain ⟨p0, p1, k0, k1, k2, k3, N1, N2, hx, hy, s0, s1, s2, s3⟩ := isB_parts g
  unfold legB at gl
  simp only [Bool.and_eq_true, Bool.not_eq_true', decide_eq_true_eq] at gl
  obtain ⟨g1, -, g3, g4⟩ := gl
  have g1' : 1 ≤ d ∧ d ≤ s := by simpa [inB] using g1
  rw [show ((f : Int)).toNat = f by simp] at g4
  obtain ⟨-, e2, -, e4, e5, e6⟩ := stepI_form g4
  have e7 := stepI_hitA g4
  dsimp only at e2 e5 e7
  have hxf := (hx _ (getD_mem (show f < xs.length by omega))).1
  have hys : 1 ≤ ys.sum := by
    apply Classical.byContradiction
    intro hn
    have h0 : ys.sum = 0 := by omega
    have hz : ∀ j, ys.getD j 0 = 0 := by
      intro j
      have h1 := nonneg_getD (fun x hx => (hy x hx).1) j
      by_cases hj : j < ys.length
      · have h2 := elem_le_sum ys (fun x hx => (hy x hx).1) _ (getD_mem hj)
        omega
      · rw [getD_out (by omega)]
    have : overB xs ys = true := by
      unfold overB
      rw [lastL_zero hz]
      simp
    rw [this] at g3
    simp at g3
  refine ⟨f, rfl, fP, g1'.1, g1'.2, by omega, hys, ?_⟩
  rcases hc with ⟨rfl, rfl⟩ | ⟨t, rfl, tP, hne⟩
  · left
    refine ⟨rfl, rfl, ?_⟩
    unfold toI at e5
    split at e5
    · rename_i hk
      unfold alB at e6
      by_cases hp : f = P
      · rw [if_pos hp] at e6
        simp only [openB, Bool.and_eq_true, decide_eq_true_eq] at e6
        omega
      · omega
    · omega
  · right
    have ht : (t : Int) = (f : Int) - d := by omega
    refine ⟨t, rfl, tP, hne, ht, ?_, ?_⟩
    · have ho : openB P ys ((f : Int) - d) = true := by
        unfold alB at e6
        split at e6
        · exact e6
        · split at e6
          · simp only [Bool.and_eq_true] at e6
            exact e6.2
          · omega
      simp only [openB, Bool.and_eq_true, decide_eq_true_eq] at ho
      have := ho.2.2
      rw [← ht] at this
      simpa using this
    · rw [e7]
      have : decide ((t : Int) ≠ -1) = true := by simp
      rw [this, Bool.true_and]
      simp
/-- A legal step leads to a valid board, is undone, and changes the pips as it must. -/
theorem step_facts {P : Nat} {c h s : Int} {xs ys : List Int} {a b d : Int} {q : Bool} (g : isB (P : Int) c h s xs ys = true) (gl : legB P h s xs ys (a, b, d, q) = true) :
    isB (P : Int) c h s (mvX xs a b 1) (mvY P ys b q 1) = true ∧ mvX (mvX xs a b 1) a b (-1) = xs ∧ mvY P (mvY P ys b q 1) b q (-1) = ys ∧
    (1 ≤ pipsL xs xs.length - pipsL (mvX xs a b 1) (mvX xs a b 1).length ∧ pipsL xs xs.length - pipsL (mvX xs a b 1) (mvX xs a b 1).length ≤ d) ∧
    (if q = true then pipsL ys ys.length < pipsL (mvY P ys b q 1) (mvY P ys b q 1).length else pipsL (mvY P ys b q 1) (mvY P ys b q 1).length = pipsL ys ys.length) ∧
    (mvY P ys b q 1).getD P 0 - ys.getD P 0 = (if q = true then 1 else 0) := by
  obtain ⟨f, rfl, fP, d1, ds, hf, hys, hc⟩ := leg_parts g gl
  obtain ⟨p0, p1, k0, k1, k2, k3, N1, N2, hx, hy, s0, s1, s2, s3⟩ := isB_parts g
  have gap : apartB P xs ys = true := by
    simp only [isB, Bool.and_eq_true] at g
    simpa using g.2.2.2.2
  have gv : vB (P : Int) c h s = true := by
    simp only [isB, Bool.and_eq_true] at g
    exact g.1
  have hfn : f < xs.length := by omega
  have hPn : P < ys.length := by omega
  have hx0 := nonneg_getD (fun x hm => (hx x hm).1)
  have hy0 := nonneg_getD (fun x hm => (hy x hm).1)
  have hap := apart_iff.1 gap
  have mk : ∀ X Y : List Int, X.length = xs.length → Y.length = ys.length → (∀ j, 0 ≤ X.getD j 0) → (∀ j, 0 ≤ Y.getD j 0) → X.sum ≤ c → Y.sum ≤ c → 0 ≤ X.sum → 1 ≤ Y.sum → (∀ i, i < P → ¬ (0 < X.getD i 0 ∧ 0 < Y.getD (P - 1 - i) 0)) → isB (P : Int) c h s X Y = true := by
    intro X Y l1 l2 h1 h2 h3 h4 h5 h6 h7
    have hsum : decide (X.sum + Y.sum = 0) = false := by simp; omega
    rw [isB, gv, side_of (by omega) h1 h3, side_of (by omega) h2 h4, hsum, show ((P : Int)).toNat = P by simp, apart_iff.2 h7]
    rfl
  rcases hc with ⟨rfl, rfl, hd⟩ | ⟨t, rfl, tP, hne, ht, ho, rfl⟩
  · have eX : mvX xs (f : Int) (-1) 1 = xs.set f (xs.getD f 0 - 1) := by simp [mvX]
    have eY : mvY P ys (-1) false 1 = ys := by simp [mvY]
    have eX2 : mvX (xs.set f (xs.getD f 0 - 1)) (f : Int) (-1) (-1) = xs := by
      have : mvX (xs.set f (xs.getD f 0 - 1)) (f : Int) (-1) (-1) = (xs.set f (xs.getD f 0 - 1)).set f ((xs.set f (xs.getD f 0 - 1)).getD f 0 + 1) := by simp [mvX]
      rw [this, getD_set _ f _ hfn, if_pos rfl, List.set_set]
      apply ext_getD (by simp)
      intro j
      rw [getD_set _ j _ hfn]
      split
      · rename_i e; subst e; omega
      · rfl
    rw [eX, eY, eX2]
    have hsum := sum_set xs f (xs.getD f 0 - 1) hfn
    have hle := elem_le_sum xs (fun x hm => (hx x hm).1) _ (getD_mem hfn)
    have hp := pips_set xs f (xs.getD f 0 - 1) hfn xs.length
    rw [if_pos hfn, show xs.getD f 0 - 1 - xs.getD f 0 = -1 by omega, Int.mul_neg_one] at hp
    refine ⟨mk _ _ (by simp) rfl ?_ hy0 (by omega) s3 (by omega) hys ?_, rfl, by simp [mvY], ?_, by simp, by simp⟩
    · intro j
      rw [getD_set _ j _ hfn]
      have := hx0 j
      split <;> omega
    · intro i hi
      rw [getD_set _ i _ hfn]
      have := hap i hi
      split
      · rename_i e; subst e; omega
      · exact this
    · rw [List.length_set, hp]
      omega
  · obtain ⟨K, hK⟩ : ∃ K, P - 1 - t = K := ⟨_, rfl⟩
    have eK : ((P : Int) - 1 - (t : Int)).toNat = K := by omega
    have hKn : K < ys.length := by omega
    have htn : t < xs.length := by omega
    have hKP : ¬ K = P := by omega
    have hft : ¬ f = t := fun e => hne e.symm
    rw [hK] at ho ⊢
    have tn1 : ¬ ((t : Int) = -1) := by omega
    have eX : mvX xs (f : Int) (t : Int) 1 = (xs.set f (xs.getD f 0 - 1)).set t (xs.getD t 0 + 1) := by
      rw [mvX, if_neg tn1, show ((f : Int)).toNat = f by simp, show ((t : Int)).toNat = t by simp, getD_set _ t _ hfn, if_neg hne]
    have hX2 : ∀ j, ((xs.set f (xs.getD f 0 - 1)).set t (xs.getD t 0 + 1)).getD j 0 = if j = t then xs.getD t 0 + 1 else if j = f then xs.getD f 0 - 1 else xs.getD j 0 := by
      intro j
      rw [getD_set _ j _ (by rw [List.length_set]; exact htn), getD_set _ j _ hfn]
    have eX2 : mvX ((xs.set f (xs.getD f 0 - 1)).set t (xs.getD t 0 + 1)) (f : Int) (t : Int) (-1) = xs := by
      rw [mvX, if_neg tn1, show ((f : Int)).toNat = f by simp, show ((t : Int)).toNat = t by simp]
      apply ext_getD (by simp)
      intro j
      rw [getD_set _ j _ (by simp; exact htn), getD_set _ j _ (by simp; exact hfn), getD_set _ t _ (by simp; exact hfn), hX2, hX2, hX2, if_neg hft, if_pos rfl, if_neg hne, if_pos rfl]
      by_cases e1 : j = t
      · subst e1; rw [if_pos rfl]; omega
      · rw [if_neg e1]
        by_cases e2 : j = f
        · subst e2; rw [if_pos rfl]; omega
        · rw [if_neg e2, if_neg e1, if_neg e2]
    have hsum1 := sum_set xs f (xs.getD f 0 - 1) hfn
    have hsum2 := sum_set (xs.set f (xs.getD f 0 - 1)) t (xs.getD t 0 + 1) (by rw [List.length_set]; exact htn)
    rw [getD_set _ t _ hfn, if_neg hne] at hsum2
    have hp1 := pips_set xs f (xs.getD f 0 - 1) hfn xs.length
    have hp2 := pips_set (xs.set f (xs.getD f 0 - 1)) t (xs.getD t 0 + 1) (by rw [List.length_set]; exact htn) xs.length
    rw [if_pos hfn, show xs.getD f 0 - 1 - xs.getD f 0 = -1 by omega, Int.mul_neg_one] at hp1
    rw [getD_set _ t _ hfn, if_neg hne, if_pos htn, show xs.getD t 0 + 1 - xs.getD t 0 = 1 by omega, Int.mul_one, hp1] at hp2
    have hXn : ∀ j, 0 ≤ ((xs.set f (xs.getD f 0 - 1)).set t (xs.getD t 0 + 1)).getD j 0 := by
      intro j
      rw [hX2 j]
      have := hx0 j
      have := hx0 t
      split
      · omega
      · split <;> omega
    rw [eX, eX2]
    have hyK := hy0 K
    by_cases hq : 0 < ys.getD K 0
    · rw [decide_eq_true hq]
      have hy1 : ys.getD K 0 = 1 := by omega
      have hPK : ¬ P = K := fun e => hKP e.symm
      have eY : mvY P ys (t : Int) true 1 = (ys.set K (ys.getD K 0 - 1)).set P (ys.getD P 0 + 1) := by
        rw [mvY, if_pos rfl, eK, getD_set _ P _ hKn, if_neg hPK]
      have hY2 : ∀ j, ((ys.set K (ys.getD K 0 - 1)).set P (ys.getD P 0 + 1)).getD j 0 = if j = P then ys.getD P 0 + 1 else if j = K then ys.getD K 0 - 1 else ys.getD j 0 := by
        intro j
        rw [getD_set _ j _ (by rw [List.length_set]; exact hPn), getD_set _ j _ hKn]
      have eY2 : mvY P ((ys.set K (ys.getD K 0 - 1)).set P (ys.getD P 0 + 1)) (t : Int) true (-1) = ys := by
        rw [mvY, if_pos rfl, eK]
        apply ext_getD (by simp)
        intro j
        rw [getD_set _ j _ (by simp; exact hPn), getD_set _ j _ (by simp; exact hKn), getD_set _ P _ (by simp; exact hKn), hY2, hY2, hY2, if_neg hKP, if_pos rfl, if_neg hPK, if_pos rfl]
        by_cases e1 : j = P
        · subst e1; rw [if_pos rfl]; omega
        · rw [if_neg e1]
          by_cases e2 : j = K
          · subst e2; rw [if_pos rfl]; omega
          · rw [if_neg e2, if_neg e1, if_neg e2]
      have hsy1 := sum_set ys K (ys.getD K 0 - 1) hKn
      have hsy2 := sum_set (ys.set K (ys.getD K 0 - 1)) P (ys.getD P 0 + 1) (by rw [List.length_set]; exact hPn)
      rw [getD_set _ P _ hKn, if_neg hPK] at hsy2
      have hq1 := pips_set ys K (ys.getD K 0 - 1) hKn ys.length
      have hq2 := pips_set (ys.set K (ys.getD K 0 - 1)) P (ys.getD P 0 + 1) (by rw [List.length_set]; exact hPn) ys.length
      rw [if_pos hKn, show ys.getD K 0 - 1 - ys.getD K 0 = -1 by omega, Int.mul_neg_one] at hq1
      rw [getD_set _ P _ hKn, if_neg hPK, if_pos hPn, show ys.getD P 0 + 1 - ys.getD P 0 = 1 by omega, Int.mul_one, hq1] at hq2
      rw [eY, eY2]
      refine ⟨mk _ _ (by simp) (by simp) hXn ?_ (by omega) (by omega) (by omega) (by omega) ?_, rfl, rfl, ?_, ?_, ?_⟩
      · intro j
        rw [hY2 j]
        have := hy0 j
        have := hy0 P
        split
        · omega
        · split <;> omega
      · intro i hi
        rw [hX2, hY2]
        have h1 := hap i hi
        rw [if_neg (show ¬ P - 1 - i = P by omega)]
        by_cases e : i = t
        · subst e
          rw [if_pos rfl, if_pos hK]
          omega
        · rw [if_neg e, if_neg (show ¬ P - 1 - i = K by omega)]
          split
          · rename_i e2; subst e2; omega
          · exact h1
      · rw [List.length_set, List.length_set, hp2]
        omega
      · rw [if_pos rfl, List.length_set, List.length_set, hq2]
        omega
      · rw [if_pos rfl, hY2, if_pos rfl]
        omega
    · rw [decide_eq_false hq]
      have eY : mvY P ys (t : Int) false 1 = ys := by simp [mvY]
      rw [eY]
      refine ⟨mk _ _ (by simp) rfl hXn hy0 (by omega) s3 (by omega) hys ?_, rfl, by simp [mvY], ?_, by simp, by simp⟩
      · intro i hi
        rw [hX2]
        have h1 := hap i hi
        by_cases e : i = t
        · subst e
          rw [if_pos rfl, hK]
          omega
        · rw [if_neg e]
          split
          · rename_i e2; subst e2; omega
          · exact h1
      · rw [List.length_set, List.length_set, hp2]
        omega

end Go.Proofs.YtknkbhmgdddjkaaGreat
namespace Go.Proofs.YtknkbhmgdddjkaaGreat
open Go.ChangeShapes Go.WideShapes Go.ChangeAt Go.RowKit
set_option linter.unusedVariables false
set_option linter.unusedSimpArgs false

/-- The sequences that come from one by one more step. -/
def oneMore (P : Nat) (p : Ply) (t : Stp) : Ply := (p.1 ++ [t], mvX p.2.1 t.1 t.2.1 1, mvY P p.2.2 t.2.1 t.2.2.2 1)
def cand (P : Nat) (h d : Int) (p : Ply) : List Ply := (legL P h p.2.1 p.2.2 d).map (oneMore P p)
/-- Of the sequences that lead to one board the first is kept. -/
def addP (out : List Ply) (p : Ply) : List Ply := if out.any (fun q => decide (q.2 = p.2)) = true then out else out ++ [p]
def addAll (out : List Ply) (l : List Ply) : List Ply := l.foldl addP out
def nextP (P : Nat) (h d : Int) (l : List Ply) : List Ply := addAll [] (l.flatMap (cand P h d))
theorem addAll_append (out l m : List Ply) : addAll out (l ++ m) = addAll (addAll out l) m := by simp [addAll]
theorem addAll_snoc (out l : List Ply) (x : Ply) : addAll out (l ++ [x]) = addP (addAll out l) x := by simp [addAll]
theorem addP_length (out : List Ply) (p : Ply) : (addP out p).length ≤ out.length + 1 := by
  unfold addP
  split <;> simp
theorem addAll_length : ∀ (l out : List Ply), (addAll out l).length ≤ out.length + l.length
  | [], out => by simp [addAll]
  | x :: l, out => by
    have h1 := addAll_length l (addP out x)
    have h2 := addP_length out x
    simp only [addAll, List.foldl_cons, List.length_cons] at h1 ⊢
    omega
theorem addP_mem {out : List Ply} {p q : Ply} (h : q ∈ addP out p) : q ∈ out ∨ q = p := by
  unfold addP at h
  split at h
  · exact .inl h
  · rcases List.mem_append.1 h with h | h
    · exact .inl h
    · simp at h; exact .inr h
theorem addAll_mem : ∀ {l out : List Ply} {q : Ply}, q ∈ addAll out l → q ∈ out ∨ q ∈ l
  | [], out, q, h => .inl h
  | x :: l, out, q, h => by
    rcases addAll_mem (l := l) (out := addP out x) h with h | h
    · rcases addP_mem h with h | h
      · exact .inl h
      · exact .inr (by simp [h])
    · exact .inr (by simp [h])
theorem cand_length (P : Nat) (h d : Int) (p : Ply) : (cand P h d p).length ≤ P + 1 := by
  unfold cand
  rw [List.length_map]
  exact legL_length P h _ _ d
theorem flat_length (P : Nat) (h d : Int) : ∀ l : List Ply, (l.flatMap (cand P h d)).length ≤ l.length * (P + 1)
  | [] => by simp
  | x :: l => by
    have h1 := flat_length P h d l
    have h2 := cand_length P h d x
    rw [List.flatMap_cons, List.length_append, List.length_cons, Nat.add_mul]
    omega
theorem nextP_length (P : Nat) (h d : Int) (l : List Ply) : (nextP P h d l).length ≤ l.length * (P + 1) := by
  have h1 := addAll_length (l.flatMap (cand P h d)) []
  have h2 := flat_length P h d l
  unfold nextP
  rw [List.length_nil] at h1
  omega
/-- The place of the first play with a board, or -1. -/
def findP (b : List Int × List Int) : List Ply → Nat → Int
  | [], _ => -1
  | q :: l, n => if q.2 = b then (n : Int) else findP b l (n + 1)
theorem findP_neg (b : List Int × List Int) : ∀ (l : List Ply) (n : Nat), findP b l n < 0 ↔ ¬ (l.any (fun q => decide (q.2 = b)) = true)
  | [], n => by simp [findP]
  | q :: l, n => by
    rw [findP, List.any_cons]
    by_cases e : q.2 = b
    · rw [if_pos e, decide_eq_true e]
      simp
    · rw [if_neg e, decide_eq_false e, findP_neg b l (n + 1)]
      simp
theorem findP_bound (b : List Int × List Int) : ∀ (l : List Ply) (n : Nat), -1 ≤ findP b l n ∧ findP b l n < (n : Int) + l.length + 1
  | [], n => by simp [findP]; omega
  | q :: l, n => by
    rw [findP]
    split
    · simp; omega
    · have := findP_bound b l (n + 1)
      simp
      omega
/-- Every board of a list is valid. -/
def Fine (p c h s : Int) (l : List Ply) : Prop := ∀ q ∈ l, isB p c h s q.2.1 q.2.2 = true
theorem legL_leg {P : Nat} {c h s d : Int} {xs ys : List Int} {t : Stp} (g : isB (P : Int) c h s xs ys = true) (hd : inB d 1 s = true) (ht : t ∈ legL P h xs ys d) : legB P h s xs ys t = true := by
  unfold legL at ht
  split at ht
  · simp at ht
  · rename_i ho
    have : ∀ n, n ≤ P + 1 → t ∈ legTo P h xs ys d n → ∃ k, k ≤ P ∧ stepI P h xs ys k d = some t := by
      intro n
      induction n with
      | zero => intro _ h; simp [legTo] at h
      | succ n ih =>
        intro hn h
        rw [legTo, List.mem_append] at h
        rcases h with h | h
        · exact ⟨n, by omega, by simpa using h⟩
        · exact ih (by omega) h
    obtain ⟨k, hk, e⟩ := this _ (Nat.le_refl _) ht
    obtain ⟨e1, -, e3, -⟩ := stepI_form e
    rw [legB_S, e1, e3, hd, show inB (k : Int) 0 (P : Int) = true by simp [inB]; omega, show ((k : Int)).toNat = k by simp]
    unfold stepS
    rw [if_neg ho, e]
    simp
theorem cand_fine {P : Nat} {c h s d : Int} {p : Ply} (g : isB (P : Int) c h s p.2.1 p.2.2 = true) (hd : inB d 1 s = true) : Fine (P : Int) c h s (cand P h d p) := by
  intro q hq
  obtain ⟨t, ht, rfl⟩ := List.mem_map.1 hq
  obtain ⟨a, b, d', q⟩ := t
  exact (step_facts g (legL_leg g hd ht)).1
theorem nextP_fine {P : Nat} {c h s d : Int} {l : List Ply} (g : Fine (P : Int) c h s l) (hd : inB d 1 s = true) : Fine (P : Int) c h s (nextP P h d l) := by
  intro q hq
  rcases addAll_mem hq with h | h
  · simp at h
  · obtain ⟨p, hp, hq⟩ := List.mem_flatMap.1 h
    exact cand_fine (g p hp) hd q hq
/-- What has been kept when i sequences and k steps of the next one are over. -/
def kept (P : Nat) (h d : Int) (l : List Ply) (i : Nat) (m : List Stp) (p : Ply) (k : Nat) : List Ply := addAll (addAll [] ((l.take i).flatMap (cand P h d))) ((m.take k).map (oneMore P p))
/-- The lists of a length for an order of the dice: as long as possible. -/
def longP (P : Nat) (h : Int) : List Int → List Ply → List Ply
  | [], l => l
  | d :: ds, l => if nextP P h d l = [] then l else longP P h ds (nextP P h d l)
def longN (P : Nat) (h : Int) : List Int → List Ply → Nat
  | [], l => 0
  | d :: ds, l => if nextP P h d l = [] then 0 else longN P h ds (nextP P h d l) + 1
def fineP (P : Nat) (h : Int) : List Int → List Ply → Bool
  | [], l => true
  | d :: ds, l => decide ((nextP P h d l).length ≤ 3000) && (if nextP P h d l = [] then true else fineP P h ds (nextP P h d l))
def startP (xs ys : List Int) : List Ply := [([], xs, ys)]
def ordersP (ra rb : Int) : List (List Int) := if ra = rb then [[ra, ra, ra, ra]] else [[ra, rb], [rb, ra]]
def usedP (P : Nat) (h : Int) (xs ys : List Int) (ra rb : Int) : Nat := ((ordersP ra rb).map (fun o => longN P h o (startP xs ys))).foldl max 0
theorem longN_le (P : Nat) (h : Int) : ∀ (o : List Int) (l : List Ply), longN P h o l ≤ o.length
  | [], l => by simp [longN]
  | d :: ds, l => by
    have := longN_le P h ds (nextP P h d l)
    rw [longN]
    split <;> simp <;> omega
end Go.Proofs.YtknkbhmgdddjkaaGreat
namespace Go.Proofs.YtknkbhmgdddjkaaGreat
open Go.ChangeShapes Go.WideShapes Go.ChangeAt Go.RowKit
set_option linter.unusedVariables false
set_option linter.unusedSimpArgs false
set_option maxRecDepth 4000

set_option maxRecDepth 8000 in
set_option maxHeartbeats 1000000 in
theorem l05Find_any (lo hi : Nat) (a : Option Addr) (n cap : Nat) (l : List PP) (b1 b2 : Option Addr) (m1 m2 k1 k2 : Nat) (us vs : List Int) (w : World) (hn : l.length = n) (hle : n ≤ 1048576) (hP : OPl lo hi w a l) (hA : PAll lo hi w l)
    (hx : ∀ x ∈ l, x.2.2.1.length ≤ 1048576 ∧ x.2.2.2.length ≤ 1048576) (h1 : us.length = m1) (h2 : vs.length = m2) (l1 : m1 ≤ 1048576) (l2 : m2 ≤ 1048576) (s1 : IRow w b1 us) (s2 : IRow w b2 vs) :
    Calls Tryz.prog 49 #[.slice a n cap, .agg #[.slice b1 m1 k1, .slice b2 m2 k2]] w fun e w' => e = .returned (.int .i64 (findP (us, vs) (l.map Prod.snd) 0)) ∧ Below w.heap.size w w' := by
  subst hn
  obtain ⟨Q, hQ⟩ : ∃ Q, findP (us, vs) (l.map Prod.snd) 0 = Q := ⟨_, rfl⟩
  rw [hQ]
  have HQ := Lib.hid hQ
  clear hQ
  have BB := Blk.new w #[.slice b1 m1 k1, .slice b2 m2 k2] 28
  have hb : Below w.heap.size w (w.alloc (.cells #[.slice b1 m1 k1, .slice b2 m2 k2] 28)) := (Below.refl _ _).alloc (Nat.le_refl _) _
  replace hP := hP.below hb
  replace hA := hA.below hb
  replace s1 := s1.below hb
  replace s2 := s2.below hb
  have HX := Lib.hid hx
  clear hx
  go_enter Tryz.func49, Tryz.ntmps49
  go_wp2_with fail
  generalize (w.alloc (.cells #[.slice b1 m1 k1, .slice b2 m2 k2] 28)) = v0 at *
  go_loopg [5] l.length (fun m i wr => ∃ k : Nat, k ≤ l.length ∧ m = l.length - k ∧ i = .int .i64 k ∧ findP (us, vs) ((l.drop k).map Prod.snd) k = Q ∧ Below v0.heap.size v0 wr)
  case atStart => exact ⟨0, by omega, by omega, rfl, by simpa using HQ.out, Below.refl _ _⟩
  case round =>
    obtain ⟨k, hk, hm, rfl, hf, hbel⟩ := hrel
    by_cases hlt : k < l.length
    · have hlt' : (k : Int) < (l.length : Int) := by omega
      have hk0 : (0 : Int) ≤ (k : Int) := by omega
      obtain ⟨x, hx⟩ : ∃ x, l[k]? = some x := ⟨_, List.getElem?_eq_getElem hlt⟩
      obtain ⟨g, rfl, R⟩ := (hP.below hbel).row hlt
      obtain ⟨-, u1, u2⟩ := R.three k x hx
      have hmem := List.mem_of_getElem? hx
      have hD := ((hA.below hbel) x hmem).2
      have hlen := HX.out x hmem
      rw [show l.drop k = x :: l.drop (k + 1) by rw [List.drop_eq_getElem_cons hlt]; congr 1; rw [List.getElem?_eq_getElem hlt] at hx; simpa using hx, List.map_cons, findP] at hf
      have hs := fun W (hW : Below wr.heap.size wr W) => l05Same_any x.1.b1 x.1.b2 b1 b2 x.2.2.1.length x.2.2.2.length m1 m2 x.1.k1 x.1.k2 k1 k2 x.2.2.1 x.2.2.2 us vs W rfl rfl h1 h2 hlen.1 hlen.2 l1 l2 (hD.below hW).irow1 (hD.below hW).irow2 (s1.below (chain hbel hW)) (s2.below (chain hbel hW))
      obtain ⟨q1, q2, qf, ql⟩ := (BB.below hbel).two
      obtain ⟨⟨sa, sc, e1, f1, e2, f2⟩, st, X, Y⟩ := x
      dsimp only at u1 u2 hs hf
      by_cases e : X = us ∧ Y = vs
      · rw [decide_eq_true e] at hs
        rw [if_pos (by obtain ⟨rfl, rfl⟩ := e; rfl)] at hf
        have HS := Lib.hid hs
        subst hf
        clear hs hx R hmem hD hlen e
        go_wp2_with fail
        refine wp_region_held_drew (S := fun w' => w'.cell? ⟨g, k * 3 + 1, none⟩ = some (.slice e1 X.length f1) ∧ w'.cell? ⟨g, k * 3 + 2, none⟩ = some (.slice e2 Y.length f2) ∧ w'.cell? ⟨w.heap.size, 0, none⟩ = some (.slice b1 m1 k1) ∧ w'.cell? ⟨w.heap.size, 1, none⟩ = some (.slice b2 m2 k2) ∧ Below wr.heap.size wr w') (by kernel_rfl) ⟨u1, u2, q1, q2, (Below.refl _ _).drew⟩ (fun hHeld => ?_)
        refine wpAnyH_take (i := 0) (oi := { dst := some 12, op := _, type := _, pos := _, after := _, guard := _ }) (v := ?_) rfl (by kernel_rfl) (by kernel_rfl) (by kernel_rfl) (fun _ _ _ h => h) (Or.inl ⟨by rfl, ?_⟩) (by assumption) ?_
        rotate_left
        · intro w hSw
          (try dsimp only at hSw)
          go_simp
          (try (with_reducible rfl))
        try simp only [Act.put, List.setIfInBounds_toArray, List.set_cons_zero, List.set_cons_succ]
        refine wpAnyH_take (i := 1) (oi := { dst := some 13, op := _, type := _, pos := _, after := _, guard := _ }) (v := ?_) rfl (by kernel_rfl) (by kernel_rfl) (by kernel_rfl) (fun _ _ _ h => h) (Or.inl ⟨by rfl, ?_⟩) (by assumption) ?_
        rotate_left
        · intro w hSw
          (try dsimp only at hSw)
          go_simp
          (try (with_reducible rfl))
        try simp only [Act.put, List.setIfInBounds_toArray, List.set_cons_zero, List.set_cons_succ]
        refine wpAnyH_take (i := 2) (oi := { dst := some 14, op := _, type := _, pos := _, after := _, guard := _ }) (v := ?_) rfl (by kernel_rfl) (by kernel_rfl) (by kernel_rfl) (fun _ _ _ h => h) (Or.inl ⟨by rfl, ?_⟩) (by assumption) ?_
        rotate_left
        · intro w hSw
          (try dsimp only at hSw)
          go_simp
          (try (with_reducible rfl))
        try simp only [Act.put, List.setIfInBounds_toArray, List.set_cons_zero, List.set_cons_succ]
        refine wpAnyH_take (i := 3) (oi := { dst := some 15, op := _, type := _, pos := _, after := _, guard := _ }) (v := ?_) rfl (by kernel_rfl) (by kernel_rfl) (by kernel_rfl) (fun _ _ _ h => h) (Or.inl ⟨by rfl, ?_⟩) (by assumption) ?_
        rotate_left
        · intro w hSw
          (try dsimp only at hSw)
          go_simp
          (try (with_reducible rfl))
        try simp only [Act.put, List.setIfInBounds_toArray, List.set_cons_zero, List.set_cons_succ]
        refine wpAnyH_take (i := 4) (oi := { dst := some 16, op := _, type := _, pos := _, after := _, guard := _ }) (v := ?_) rfl (by kernel_rfl) (by kernel_rfl) (by kernel_rfl) (fun _ _ _ h => h) (Or.inl ⟨by rfl, ?_⟩) (by assumption) ?_
        rotate_left
        · intro w hSw
          (try dsimp only at hSw)
          go_simp
          (try (with_reducible rfl))
        try simp only [Act.put, List.setIfInBounds_toArray, List.set_cons_zero, List.set_cons_succ]
        refine wpAnyH_take (i := 5) (oi := { dst := some 17, op := _, type := _, pos := _, after := _, guard := _ }) (v := ?_) rfl (by kernel_rfl) (by kernel_rfl) (by kernel_rfl) (fun _ _ _ h => h) (Or.inl ⟨by rfl, ?_⟩) (by assumption) ?_
        rotate_left
        · intro w hSw
          (try dsimp only at hSw)
          go_simp
          (try (with_reducible rfl))
        try simp only [Act.put, List.setIfInBounds_toArray, List.set_cons_zero, List.set_cons_succ]
        refine wpAnyH_ready (rs := [6]) (by kernel_rfl) (by simp) ?_
        refine AllReadyH.cons (o := { dst := some 18, op := _, type := _, pos := _, after := _, guard := _ }) rfl (fun K hK => ?_) AllReadyH.nil
        go_simp
        refine (HS.out _ hHeld.2.2.2.2).mono ?_
        rintro e w5 ⟨rfl, hb5⟩
        (try go_wp2_with fail)
        refine hK.out _ _ ⟨CellIs.below hHeld.1 hb5, CellIs.below hHeld.2.1 hb5, CellIs.below hHeld.2.2.1 hb5, CellIs.below hHeld.2.2.2.1 hb5, chain hHeld.2.2.2.2 hb5⟩ (fun hHeld => ?_)
        clear hK K
        try simp only [Act.put, List.setIfInBounds_toArray, List.set_cons_zero, List.set_cons_succ]
        refine wpAnyH_done (by kernel_rfl) ?_ _
        go_wp2
        go_ret
        exact ⟨rfl, chain hb (chain hbel hHeld.2.2.2.2)⟩
      · rw [decide_eq_false e] at hs
        rw [if_neg (by intro h; injection h with h1 h2; exact e ⟨h1, h2⟩)] at hf
        have HS := Lib.hid hs
        have HF := Lib.hid hf
        clear hs hx R hmem hD hlen e hf
        go_wp2_with fail
        refine wp_region_held_drew (S := fun w' => w'.cell? ⟨g, k * 3 + 1, none⟩ = some (.slice e1 X.length f1) ∧ w'.cell? ⟨g, k * 3 + 2, none⟩ = some (.slice e2 Y.length f2) ∧ w'.cell? ⟨w.heap.size, 0, none⟩ = some (.slice b1 m1 k1) ∧ w'.cell? ⟨w.heap.size, 1, none⟩ = some (.slice b2 m2 k2) ∧ Below wr.heap.size wr w') (by kernel_rfl) ⟨u1, u2, q1, q2, (Below.refl _ _).drew⟩ (fun hHeld => ?_)
        refine wpAnyH_take (i := 0) (oi := { dst := some 12, op := _, type := _, pos := _, after := _, guard := _ }) (v := ?_) rfl (by kernel_rfl) (by kernel_rfl) (by kernel_rfl) (fun _ _ _ h => h) (Or.inl ⟨by rfl, ?_⟩) (by assumption) ?_
        rotate_left
        · intro w hSw
          (try dsimp only at hSw)
          go_simp
          (try (with_reducible rfl))
        try simp only [Act.put, List.setIfInBounds_toArray, List.set_cons_zero, List.set_cons_succ]
        refine wpAnyH_take (i := 1) (oi := { dst := some 13, op := _, type := _, pos := _, after := _, guard := _ }) (v := ?_) rfl (by kernel_rfl) (by kernel_rfl) (by kernel_rfl) (fun _ _ _ h => h) (Or.inl ⟨by rfl, ?_⟩) (by assumption) ?_
        rotate_left
        · intro w hSw
          (try dsimp only at hSw)
          go_simp
          (try (with_reducible rfl))
        try simp only [Act.put, List.setIfInBounds_toArray, List.set_cons_zero, List.set_cons_succ]
        refine wpAnyH_take (i := 2) (oi := { dst := some 14, op := _, type := _, pos := _, after := _, guard := _ }) (v := ?_) rfl (by kernel_rfl) (by kernel_rfl) (by kernel_rfl) (fun _ _ _ h => h) (Or.inl ⟨by rfl, ?_⟩) (by assumption) ?_
        rotate_left
        · intro w hSw
          (try dsimp only at hSw)
          go_simp
          (try (with_reducible rfl))
        try simp only [Act.put, List.setIfInBounds_toArray, List.set_cons_zero, List.set_cons_succ]
        refine wpAnyH_take (i := 3) (oi := { dst := some 15, op := _, type := _, pos := _, after := _, guard := _ }) (v := ?_) rfl (by kernel_rfl) (by kernel_rfl) (by kernel_rfl) (fun _ _ _ h => h) (Or.inl ⟨by rfl, ?_⟩) (by assumption) ?_
        rotate_left
        · intro w hSw
          (try dsimp only at hSw)
          go_simp
          (try (with_reducible rfl))
        try simp only [Act.put, List.setIfInBounds_toArray, List.set_cons_zero, List.set_cons_succ]
        refine wpAnyH_take (i := 4) (oi := { dst := some 16, op := _, type := _, pos := _, after := _, guard := _ }) (v := ?_) rfl (by kernel_rfl) (by kernel_rfl) (by kernel_rfl) (fun _ _ _ h => h) (Or.inl ⟨by rfl, ?_⟩) (by assumption) ?_
        rotate_left
        · intro w hSw
          (try dsimp only at hSw)
          go_simp
          (try (with_reducible rfl))
        try simp only [Act.put, List.setIfInBounds_toArray, List.set_cons_zero, List.set_cons_succ]
        refine wpAnyH_take (i := 5) (oi := { dst := some 17, op := _, type := _, pos := _, after := _, guard := _ }) (v := ?_) rfl (by kernel_rfl) (by kernel_rfl) (by kernel_rfl) (fun _ _ _ h => h) (Or.inl ⟨by rfl, ?_⟩) (by assumption) ?_
        rotate_left
        · intro w hSw
          (try dsimp only at hSw)
          go_simp
          (try (with_reducible rfl))
        try simp only [Act.put, List.setIfInBounds_toArray, List.set_cons_zero, List.set_cons_succ]
        refine wpAnyH_ready (rs := [6]) (by kernel_rfl) (by simp) ?_
        refine AllReadyH.cons (o := { dst := some 18, op := _, type := _, pos := _, after := _, guard := _ }) rfl (fun K hK => ?_) AllReadyH.nil
        go_simp
        refine (HS.out _ hHeld.2.2.2.2).mono ?_
        rintro e w5 ⟨rfl, hb5⟩
        (try go_wp2_with fail)
        refine hK.out _ _ ⟨CellIs.below hHeld.1 hb5, CellIs.below hHeld.2.1 hb5, CellIs.below hHeld.2.2.1 hb5, CellIs.below hHeld.2.2.2.1 hb5, chain hHeld.2.2.2.2 hb5⟩ (fun hHeld => ?_)
        clear hK K
        try simp only [Act.put, List.setIfInBounds_toArray, List.set_cons_zero, List.set_cons_succ]
        refine wpAnyH_done (by kernel_rfl) ?_ _
        go_wp2
        go_roundg (l.length - (k + 1))
        case measure => omega
        case rel => exact ⟨k + 1, by omega, rfl, by go_num, HF.out, chain hbel hHeld.2.2.2.2⟩
    · obtain rfl : k = l.length := by omega
      rw [List.drop_length, List.map_nil, findP] at hf
      subst hf
      go_wp2
      go_ret
      exact ⟨rfl, chain hb hbel⟩
end Go.Proofs.YtknkbhmgdddjkaaGreat
