/- Texts of a proof, laid together. -/
import Derived.Test.YtnlclmlnpkncoaaGreatW13
namespace Go.Proofs.YtnlclmlnpkncoaaGreat
set_option linter.unusedVariables false
set_option linter.unusedSimpArgs false
/-! The order of positions. -/
def lexC : List Int → List Int → Int
  | x :: xs, y :: ys => if x < y then -1 else if y < x then 1 else lexC xs ys
  | _, _ => 0
def cmpP (p q : List Int) : Int := lexC p.reverse q.reverse
def ltP (p q : List Int) : Bool := decide (cmpP p q < 0)
theorem lexC_cons (x y : Int) (a b : List Int) : lexC (x :: a) (y :: b) = if x < y then -1 else if y < x then 1 else lexC a b := rfl
theorem lexC_self : ∀ a : List Int, lexC a a = 0
  | [] => rfl
  | x :: a => by rw [lexC_cons, if_neg (by omega), if_neg (by omega)]; exact lexC_self a
theorem lexC_neg : ∀ a b : List Int, lexC b a = - lexC a b
  | [], [] => rfl
  | [], _ :: _ => rfl
  | _ :: _, [] => rfl
  | x :: a, y :: b => by
    have ih := lexC_neg a b
    rw [lexC_cons, lexC_cons]
    by_cases h1 : x < y
    · rw [if_neg (by omega), if_pos h1, if_pos h1]; omega
    · by_cases h2 : y < x
      · rw [if_pos h2, if_neg h1, if_pos h2]
      · rw [if_neg h2, if_neg h1, if_neg h1, if_neg h2]; exact ih
theorem lexC_eq : ∀ {a b : List Int}, a.length = b.length → lexC a b = 0 → a = b
  | [], [], _, _ => rfl
  | [], _ :: _, h, _ => by simp at h
  | _ :: _, [], h, _ => by simp at h
  | x :: a, y :: b, h, e => by
    rw [lexC_cons] at e
    split at e
    · omega
    · split at e
      · omega
      · obtain rfl : x = y := by omega
        rw [lexC_eq (by simpa using h) e]
theorem lexC_trans : ∀ {a b c : List Int}, a.length = b.length → b.length = c.length → lexC a b ≤ 0 → lexC b c ≤ 0 → lexC a c ≤ 0 ∧ (lexC a c = 0 → lexC a b = 0 ∧ lexC b c = 0)
  | [], [], [], _, _, _, _ => by simp [lexC]
  | [], [], _ :: _, _, h, _, _ => by simp at h
  | [], _ :: _, _, h, _, _, _ => by simp at h
  | _ :: _, [], _, h, _, _, _ => by simp at h
  | _ :: _, _ :: _, [], _, h, _, _ => by simp at h
  | x :: a, y :: b, z :: c, h1, h2, h3, h4 => by
    have ih := fun k3 k4 => lexC_trans (a := a) (b := b) (c := c) (by simpa using h1) (by simpa using h2) k3 k4
    rw [lexC_cons] at h3 h4
    rw [lexC_cons, lexC_cons, lexC_cons]
    by_cases c1 : x < y
    · by_cases c3 : y < z
      · rw [if_pos (by omega : x < z)]; omega
      · by_cases c4 : z < y
        · rw [if_neg c3, if_pos c4] at h4; omega
        · rw [if_pos (by omega : x < z)]; omega
    · by_cases c2 : y < x
      · rw [if_neg c1, if_pos c2] at h3; omega
      · obtain rfl : x = y := by omega
        rw [if_neg c1, if_neg c2] at h3 ⊢
        by_cases c3 : x < z
        · rw [if_pos c3]; omega
        · by_cases c4 : z < x
          · rw [if_neg c3, if_pos c4] at h4; omega
          · simp only [if_neg c3, if_neg c4] at h4 ⊢
            exact ih h3 h4
theorem cmpP_neg (p q : List Int) : cmpP q p = - cmpP p q := lexC_neg _ _
theorem cmpP_self (p : List Int) : cmpP p p = 0 := lexC_self _
theorem cmpP_eq {p q : List Int} (h : p.length = q.length) (e : cmpP p q = 0) : p = q := by
  have := lexC_eq (by simpa using h) e
  simpa using congrArg List.reverse this
theorem ltP_irr (p : List Int) : ltP p p = false := by simp [ltP, cmpP_self]
theorem ltP_asym {p q : List Int} (h : ltP p q = true) : ltP q p = false := by
  simp only [ltP, decide_eq_true_eq, decide_eq_false_iff_not] at *
  rw [cmpP_neg]; omega
theorem ltP_trans {p q r : List Int} (h1 : p.length = q.length) (h2 : q.length = r.length) (a : ltP p q = true) (b : ltP q r = true) : ltP p r = true := by
  simp only [ltP, decide_eq_true_eq] at *
  have := lexC_trans (a := p.reverse) (b := q.reverse) (c := r.reverse) (by simpa using h1) (by simpa using h2) (by unfold cmpP at a; omega) (by unfold cmpP at b; omega)
  unfold cmpP at *
  omega
theorem ltP_ntrans {p q r : List Int} (h1 : p.length = q.length) (h2 : q.length = r.length) (a : ltP p q = false) (b : ltP q r = false) : ltP p r = false := by
  simp only [ltP, decide_eq_false_iff_not] at *
  have := lexC_trans (a := r.reverse) (b := q.reverse) (c := p.reverse) (by simpa using h2.symm) (by simpa using h1.symm) (by have := cmpP_neg q r; unfold cmpP at *; omega) (by have := cmpP_neg p q; unfold cmpP at *; omega)
  have e := cmpP_neg p r
  unfold cmpP at *
  omega
theorem ltP_tri {p q : List Int} (h : p.length = q.length) (a : ltP p q = false) (b : ltP q p = false) : p = q := by
  simp only [ltP, decide_eq_false_iff_not] at *
  have := cmpP_neg p q
  exact cmpP_eq h (by omega)
/-! Lists of positions in order. -/
def Strict (l : List (List Int)) : Prop := l.Pairwise fun a b => ltP a b = true
theorem strict_ext : ∀ {l m : List (List Int)}, Strict l → Strict m → (∀ x, x ∈ l ↔ x ∈ m) → l = m
  | [], [], _, _, _ => rfl
  | [], y :: m, _, _, h => absurd ((h y).2 (by simp)) (by simp)
  | x :: l, [], _, _, h => absurd ((h x).1 (by simp)) (by simp)
  | x :: l, y :: m, hl, hm, h => by
    obtain ⟨a1, a2⟩ := List.pairwise_cons.1 hl
    obtain ⟨b1, b2⟩ := List.pairwise_cons.1 hm
    have e : x = y := by
      rcases List.mem_cons.1 ((h x).1 (by simp)) with e | e
      · exact e
      · rcases List.mem_cons.1 ((h y).2 (by simp)) with e' | e'
        · exact e'.symm
        · have := ltP_asym (a1 y e')
          rw [b1 x e] at this
          exact absurd this (by decide)
    subst e
    rw [strict_ext a2 b2 (fun z => ⟨fun hz => ?_, fun hz => ?_⟩)]
    · rcases List.mem_cons.1 ((h z).1 (by simp [hz])) with e | e
      · subst e
        have := a1 z hz
        rw [ltP_irr] at this
        exact absurd this (by decide)
      · exact e
    · rcases List.mem_cons.1 ((h z).2 (by simp [hz])) with e | e
      · subst e
        have := b1 z hz
        rw [ltP_irr] at this
        exact absurd this (by decide)
      · exact e
def putP : List (List Int) → List Int → List (List Int)
  | [], p => [p]
  | x :: l, p => if ltP x p = true then x :: putP l p else if ltP p x = true then p :: x :: l else x :: l
def atP : List (List Int) → List Int → Nat
  | [], p => 0
  | x :: l, p => if ltP x p = true then atP l p + 1 else 0
theorem atP_le : ∀ (l : List (List Int)) (p : List Int), atP l p ≤ l.length
  | [], p => Nat.le_refl _
  | x :: l, p => by
    have := atP_le l p
    rw [atP, List.length_cons]
    split <;> omega
theorem atP_before : ∀ (l : List (List Int)) (p : List Int) (j : Nat) (x : List Int), j < atP l p → l[j]? = some x → ltP x p = true
  | [], p, j, x, h, _ => by simp [atP] at h
  | y :: l, p, j, x, h, e => by
    rw [atP] at h
    split at h
    · rename_i q
      cases j with
      | zero => simp at e; subst e; exact q
      | succ j => exact atP_before l p j x (by omega) (by simpa using e)
    · omega
theorem putP_out : ∀ (l : List (List Int)) (p : List Int), putP l p = if (∃ x, l[atP l p]? = some x ∧ ltP p x = false) then l else l.take (atP l p) ++ p :: l.drop (atP l p)
  | [], p => by simp [putP, atP]
  | y :: l, p => by
    have ih := putP_out l p
    rw [putP, atP]
    by_cases h : ltP y p = true
    · rw [if_pos h, if_pos h, ih]
      simp only [List.getElem?_cons_succ, List.take_succ_cons, List.drop_succ_cons, List.cons_append]
      split <;> rfl
    · rw [if_neg h, if_neg h]
      simp only [List.getElem?_cons_zero, Option.some.injEq, List.take_zero, List.drop_zero, List.nil_append]
      by_cases h2 : ltP p y = true
      · rw [if_pos h2, if_neg]
        rintro ⟨x, e0, e⟩
        injection e0 with e0
        subst e0
        rw [h2] at e
        exact absurd e (by decide)
      · rw [if_neg h2, if_pos ⟨y, rfl, by simpa using h2⟩]
theorem putP_mem : ∀ {l : List (List Int)} {p : List Int} {n : Nat}, (∀ x ∈ l, x.length = n) → p.length = n → ∀ z, z ∈ putP l p ↔ z ∈ l ∨ z = p
  | [], p, n, _, _, z => by simp [putP]
  | x :: l, p, n, hl, hp, z => by
    have ih := putP_mem (l := l) (p := p) (fun y hy => hl y (by simp [hy])) hp z
    rw [putP]
    split
    · rw [List.mem_cons, ih, List.mem_cons]
      constructor
      · rintro (h | h | h)
        · exact .inl (.inl h)
        · exact .inl (.inr h)
        · exact .inr h
      · rintro ((h | h) | h)
        · exact .inl h
        · exact .inr (.inl h)
        · exact .inr (.inr h)
    · rename_i q1
      split
      · rw [List.mem_cons, Or.comm]
      · rename_i q2
        have e := ltP_tri (p := x) (q := p) (by rw [hl x (by simp), hp]) (by simpa using q1) (by simpa using q2)
        subst e
        constructor
        · exact .inl
        · rintro (h | h)
          · exact h
          · subst h; simp
theorem putP_len {l : List (List Int)} {p : List Int} {n : Nat} (hl : ∀ x ∈ l, x.length = n) (hp : p.length = n) : ∀ x ∈ putP l p, x.length = n := by
  intro x hx
  rcases (putP_mem hl hp x).1 hx with h | h
  · exact hl x h
  · rw [h, hp]
theorem putP_strict : ∀ {l : List (List Int)} {p : List Int} {n : Nat}, (∀ x ∈ l, x.length = n) → p.length = n → Strict l → Strict (putP l p)
  | [], p, n, _, _, _ => by simp [putP, Strict]
  | x :: l, p, n, hl, hp, hs => by
    obtain ⟨a1, a2⟩ := List.pairwise_cons.1 hs
    have hl2 : ∀ y ∈ l, y.length = n := fun y hy => hl y (by simp [hy])
    rw [putP]
    split
    · rename_i q
      refine List.pairwise_cons.2 ⟨fun z hz => ?_, putP_strict hl2 hp a2⟩
      rcases (putP_mem hl2 hp z).1 hz with h | h
      · exact a1 z h
      · subst h; exact q
    · rename_i q1
      split
      · rename_i q2
        refine List.pairwise_cons.2 ⟨fun z hz => ?_, hs⟩
        rcases List.mem_cons.1 hz with h | h
        · subst h; exact q2
        · exact ltP_trans (by rw [hp, hl x (by simp)]) (by rw [hl x (by simp), hl2 z h]) q2 (a1 z h)
      · exact hs
def putAll (l : List (List Int)) : List (List Int) → List (List Int) := List.foldl putP l
theorem putAll_facts {n : Nat} : ∀ (m l : List (List Int)), (∀ x ∈ l, x.length = n) → (∀ x ∈ m, x.length = n) → Strict l → Strict (putAll l m) ∧ (∀ x ∈ putAll l m, x.length = n) ∧ ∀ z, z ∈ putAll l m ↔ z ∈ l ∨ z ∈ m
  | [], l, hl, _, hs => ⟨hs, hl, fun z => by simp [putAll]⟩
  | p :: m, l, hl, hm, hs => by
    have hp := hm p (by simp)
    obtain ⟨h1, h2, h3⟩ := putAll_facts m (putP l p) (putP_len hl hp) (fun x hx => hm x (by simp [hx])) (putP_strict hl hp hs)
    refine ⟨h1, h2, fun z => (h3 z).trans ?_⟩
    rw [putP_mem hl hp z, List.mem_cons, or_assoc]
def sdP (l : List (List Int)) : List (List Int) := putAll [] l
theorem sdP_facts {n : Nat} {l : List (List Int)} (h : ∀ x ∈ l, x.length = n) : Strict (sdP l) ∧ (∀ x ∈ sdP l, x.length = n) ∧ ∀ z, z ∈ sdP l ↔ z ∈ l := by
  obtain ⟨h1, h2, h3⟩ := putAll_facts l [] (by simp) h List.Pairwise.nil
  exact ⟨h1, h2, fun z => (h3 z).trans (by simp)⟩
theorem sdP_is {n : Nat} {l m : List (List Int)} (h : ∀ x ∈ l, x.length = n) (hm : Strict m) (e : ∀ z, z ∈ m ↔ z ∈ l) : m = sdP l := by
  obtain ⟨h1, _, h3⟩ := sdP_facts h
  exact strict_ext hm h1 fun z => (e z).trans (h3 z).symm
end Go.Proofs.YtnlclmlnpkncoaaGreat
