/- Plain mathematics: what a roll does to the pips and the checkers of a position. -/
import Derived.Test.Ytpalokkcmpjcmaa10a
import Derived.Test.Ytpalokkcmpjcmaa10zh
namespace Go.Proofs.Ytpalokkcmpjcmaa
open Go.ChangeShapes Go.WideShapes Go.ChangeAt Go.RowKit
set_option linter.unusedVariables false
set_option linter.unusedSimpArgs false
set_option maxRecDepth 4000

theorem wtF_app (f : Nat → Int) : ∀ (a b : List Int) (k : Nat), wtF f k (a ++ b) = wtF f k a + wtF f (k + a.length) b
  | [], b, k => by simp [wtF]
  | x :: a, b, k => by
    rw [List.cons_append, wtF, wtF, wtF_app f a b (k + 1), List.length_cons, show k + 1 + a.length = k + (a.length + 1) by omega]
    omega
def pwF (i : Nat) : Int := (i : Int) + 1
def pwT (p : List Int) : Int := wtF pwF 0 p
theorem pips_take (xs : List Int) : ∀ k, k ≤ xs.length → pipsL xs k = wtF pwF 0 (xs.take k)
  | 0, _ => by simp [pipsL, wtF]
  | k + 1, h => by
    have hk : k < xs.length := h
    have ht : xs.take (k + 1) = xs.take k ++ [xs.getD k 0] := by
      rw [List.take_add_one, List.getElem?_eq_getElem hk, List.getD_eq_getElem?_getD, List.getElem?_eq_getElem hk]
      rfl
    rw [pipsL, pips_take xs k (by omega), ht, wtF_app, List.length_take, Nat.min_eq_left (by omega)]
    simp [wtF, pwF]
theorem pips_wt (xs : List Int) : pipsL xs xs.length = pwT xs := by rw [pips_take xs xs.length (Nat.le_refl _), List.take_length]; rfl
theorem pw_ge {p : List Int} (h : NN p) : p.sum ≤ pwT p := wtF_ge pwF (fun k => by unfold pwF; omega) p 0 h
theorem pw_zero {p : List Int} (h : NN p) (e : p.sum = 0) : pwT p = 0 := wtF_zero _ _ _ (zero_all h e)
theorem adL_pips {p : List Int} {d : Int} {z : List Int} (h : NN p) (hd : 1 ≤ d) (hz : z ∈ adL p d) : pwT z ≤ pwT p ∧ pwT p - d ≤ pwT z ∧ z.sum ≤ p.sum ∧ (p.sum ≠ 0 → pwT z < pwT p) := by
  by_cases e : p.sum = 0
  · rw [adL_zero h e] at hz
    simp at hz
    subst hz
    exact ⟨Int.le_refl _, by omega, Int.le_refl _, fun q => absurd e q⟩
  · obtain ⟨i, hi, h0, hok, rfl⟩ := (steps_mem h).1 ((adL_mem h e z).1 hz)
    have hw := asL_wt pwF (p := p) hi hd
    have hs := asL_sum (p := p) hi hd
    have e1 : pwT (asL p i d) = wtF pwF 0 (asL p i d) := rfl
    have e2 : pwT p = wtF pwF 0 p := rfl
    rw [e1, e2, hw, hs]
    unfold pwF
    by_cases c : d ≤ (i : Int)
    · rw [if_pos c, if_pos c]
      omega
    · rw [if_neg c, if_neg c]
      omega
theorem RM_pips : ∀ {ds : List Int} {p z : List Int}, NN p → (∀ d ∈ ds, 1 ≤ d) → RM ds p z → pwT z ≤ pwT p ∧ pwT p - ds.sum ≤ pwT z ∧ z.sum ≤ p.sum ∧ (ds ≠ [] → p.sum ≠ 0 → pwT z < pwT p)
  | [], p, z, h, _, e => by rw [RM] at e; subst e; exact ⟨Int.le_refl _, by simp, Int.le_refl _, fun q => absurd rfl q⟩
  | d :: ds, p, z, h, hd, ⟨q, h1, h2⟩ => by
    have a := adL_pips h (hd d (by simp)) h1
    have b := RM_pips (adL_facts h (hd d (by simp)) h1).1 (fun x hx => hd x (by simp [hx])) h2
    rw [List.sum_cons]
    exact ⟨by omega, by omega, by omega, fun _ q => by have := a.2.2.2 q; omega⟩
theorem resI_pips {n : Nat} {xs : List Int} {ra rb : Int} (hP : PO n xs) (r1 : 1 ≤ rb) (r2 : rb ≤ ra) (r3 : ra ≤ 6) : ∀ z ∈ resI xs (ordersP ra rb),
    pwT z ≤ pwT xs ∧ pwT xs - (if ra = rb then 4 * ra else ra + rb) ≤ pwT z ∧ z.sum ≤ xs.sum ∧ (xs.sum ≠ 0 → pwT z < pwT xs) := fun z hz => by
  obtain ⟨o1, o2, o3⟩ := orders_in r1 r2 r3
  obtain ⟨o, ho, hm⟩ := ((resI_facts (p := xs) (os := ordersP ra rb) hP.1 (fun o ho d hd => ((o3 o ho).2.2 d hd).1)).2.1 z).1 hz
  have h := RM_pips hP.1 (fun d hd => ((o3 o ho).2.2 d hd).1) hm
  have hs : o.sum = (if ra = rb then 4 * ra else ra + rb) := by
    unfold ordersP at ho
    split at ho
    · rename_i e
      simp at ho
      subst ho
      rw [if_pos e]
      simp
      omega
    · rename_i e
      rw [if_neg e]
      simp at ho
      rcases ho with rfl | rfl
      · simp
      · simp; omega
  rw [hs] at h
  exact ⟨h.1, h.2.1, h.2.2.1, h.2.2.2 (fun e => by have := (o3 o ho).1; rw [e] at this; simp at this)⟩
/-- What each result of a roll is: a position, with fewer pips. -/
theorem rsL_pips {p c h s : Int} {xs : List Int} {ra rb : Int} (e : rsC p c h s xs ra rb = 0) : okP p c h s xs = true ∧ (1 ≤ rb ∧ rb ≤ ra ∧ ra ≤ 6) ∧ ∀ z ∈ rsL p c h s xs ra rb,
    okP p c h s z = true ∧ pwT z ≤ pwT xs ∧ pwT xs - (if ra = rb then 4 * ra else ra + rb) ≤ pwT z ∧ (pwT xs > 0 → pwT z < pwT xs) := by
  have hl : rsL p c h s xs ra rb = resI xs (ordersP ra rb) := by rw [rsL, if_pos e]
  rw [hl]
  unfold rsC at e
  split at e
  · rename_i z
    split at e
    · rename_i q
      have g := okP_of z
      have hs6 : s ≤ 6 := by
        have : vB p c h s = true := by simp only [okP, Bool.and_eq_true] at g; exact g.1
        have := vB_iff.1 this
        omega
      obtain ⟨k1, k2, k3⟩ := okP_PO g
      obtain ⟨j1, j2, j3⟩ := rlB_parts q hs6
      have gp := okP_parts g
      refine ⟨g, ⟨j1, j2, j3⟩, fun z hz => ?_⟩
      have hp := resI_pips k1 j1 j2 j3 z hz
      have hz1 := resI_PO k2 k3 k1 j1 j2 j3 z hz
      refine ⟨?_, hp.1, hp.2.1, fun q => hp.2.2.2 (fun e => by rw [pw_zero k1.1 e] at q; omega)⟩
      simp only [okP, Bool.and_eq_true] at g ⊢
      refine ⟨g.1, sideB_iff.2 ⟨by have := hz1.2.1; omega, fun x hx => ⟨hz1.1 x hx, ?_⟩, by omega⟩⟩
      obtain ⟨j, hj, rfl⟩ := List.mem_iff_getElem.1 hx
      have := sum_ge hz1.1 j
      rw [List.getD_eq_getElem?_getD, List.getElem?_eq_getElem hj] at this
      simp at this
      omega
    · omega
  · rename_i z
    exact absurd e z
theorem pw_small {p c h s : Int} {xs : List Int} (g : okP p c h s xs = true) : 0 ≤ pwT xs ∧ pwT xs ≤ 10000 := by
  have gp := okP_parts g
  have hN : NN xs := fun x hx => (gp.2.2.1 x hx).1
  have gen : ∀ (l : List Int) (k : Nat), NN l → k + l.length ≤ 24 → wtF pwF k l ≤ 24 * l.sum := by
    intro l
    induction l with
    | nil => intro k _ _; simp [wtF]
    | cons x l ih =>
      intro k h hk
      have h1 := ih (k + 1) h.tail.2 (by rw [List.length_cons] at hk; omega)
      have h2 := h.tail.1
      have h3 : pwF k ≤ 24 := by rw [List.length_cons] at hk; unfold pwF; omega
      have h4 := Int.mul_le_mul_of_nonneg_right h3 h2
      rw [wtF, List.sum_cons]
      omega
  have h1 := gen xs 0 hN (by omega)
  have h2 := pw_ge hN
  have h3 : pwT xs = wtF pwF 0 xs := rfl
  omega
end Go.Proofs.Ytpalokkcmpjcmaa
