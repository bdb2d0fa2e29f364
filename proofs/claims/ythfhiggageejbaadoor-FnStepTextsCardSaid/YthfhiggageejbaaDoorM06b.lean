/- Plain mathematics of the texts of several steps: how they are joined and split, and what is read from them. -/
import Derived.Test.YthfhiggageejbaaDoorM06
import Derived.Lib.Split
import Derived.Lib.Join
namespace Go.Proofs.YthfhiggageejbaaDoor
set_option linter.unusedVariables false
set_option linter.unusedSimpArgs false

abbrev St4 := Int × Int × Int × Bool
def plX (p s : Int) (x : St4) : Bool := plB p s x.1 x.2.1 x.2.2.1 x.2.2.2
def stX (p : Int) (x : St4) : List UInt8 := stT p x.1 x.2.1 x.2.2.1 x.2.2.2
/-- The texts of steps, a blank between two. -/
def stJ (p : Int) (L : List St4) : List UInt8 := Lib.join (L.map (stX p)) [32]
theorem stJ_nil (p : Int) : stJ p [] = [] := rfl
theorem stJ_snoc (p : Int) (L : List St4) (x : St4) : stJ p (L ++ [x]) = if L = [] then stX p x else stJ p L ++ 32 :: stX p x := by
  unfold stJ
  cases L with
  | nil => rw [if_pos rfl]; exact Lib.join_one _ _
  | cons y r =>
    rw [if_neg (by simp)]
    simp only [List.cons_append, List.map_cons, List.map_append, List.map_nil, Lib.join_cons]
    simp [Lib.joinTail]
theorem stX_len {p s : Int} (hp : p ≤ 24) (hs : s ≤ 6) {x : St4} (h : plX p s x = true) : (stX p x).length ≤ 8 ∧ 3 ≤ (stX p x).length := stT_len hp hs h
theorem stJ_len {p s : Int} (hp : p ≤ 24) (hs : s ≤ 6) : ∀ L : List St4, L.all (plX p s) = true → (stJ p L).length ≤ 9 * L.length
  | [], _ => by simp [stJ_nil]
  | x :: r, h => by
    simp only [List.all_cons, Bool.and_eq_true] at h
    have h1 := (stX_len hp hs h.1).1
    have ih := stJ_len hp hs r h.2
    unfold stJ at *
    rw [List.map_cons, Lib.join_cons]
    have : (Lib.joinTail [32] (r.map (stX p))).length ≤ 9 * r.length := by
      clear ih
      have hr := h.2
      clear h
      induction r with
      | nil => simp [Lib.joinTail]
      | cons y q ih2 =>
        simp only [List.all_cons, Bool.and_eq_true] at hr
        have h2 := (stX_len hp hs hr.1).1
        have := ih2 hr.2
        simp only [Lib.joinTail, List.map_cons, List.flatten_cons, List.length_append, List.length_cons, List.length_nil] at this ⊢
        omega
    simp only [List.length_append, List.length_cons]
    omega
/-- The text of steps; empty if they have none. -/
def stsT (p s : Int) (L : List St4) : List UInt8 := if 4 < L.length then [] else if L = [] then [45] else if L.all (plX p s) = true then stJ p L else []

/-! ### splitting -/
theorem split_cons (c : UInt8) (a b : List UInt8) (h : c ∉ a) : splitL c.toNat (a ++ c :: b) = a :: splitL c.toNat b :=
  split_word _ _ _ _ (fun x hx e => h (UInt8.toNat_inj.1 e ▸ hx)) rfl
theorem split_none (c : UInt8) (a : List UInt8) (h : c ∉ a) : splitL c.toNat a = [a] := split_last _ _ (fun x hx e => h (UInt8.toNat_inj.1 e ▸ hx))
theorem first_of (c : UInt8) : ∀ (l : List UInt8), c ∈ l → ∃ a b, l = a ++ c :: b ∧ c ∉ a
  | [], h => by simp at h
  | x :: r, h => by
    by_cases e : x = c
    · subst e; exact ⟨[], r, rfl, by simp⟩
    · obtain ⟨a, b, h1, h2⟩ := first_of c r (by rcases List.mem_cons.1 h with h | h; exact absurd h.symm e; exact h)
      exact ⟨x :: a, b, by rw [h1]; rfl, by simp only [List.mem_cons, not_or]; exact ⟨fun g => e g.symm, h2⟩⟩
theorem splitK_split (c : UInt8) : ∀ (k : Nat) (l : List UInt8), (Lib.splitK [c] 0 k l).length = min (k + 1) (splitL c.toNat l).length ∧ ((splitL c.toNat l).length ≤ k + 1 → Lib.splitK [c] 0 k l = splitL c.toNat l)
  | 0, l => by
    have hne : 0 < (splitL c.toNat l).length := List.length_pos_iff.2 (splitL_ne _ _)
    refine ⟨by simp [Lib.splitK]; omega, fun h => ?_⟩
    by_cases hc : c ∈ l
    · obtain ⟨a, b, rfl, ha⟩ := first_of c l hc
      have hb : 0 < (splitL c.toNat b).length := List.length_pos_iff.2 (splitL_ne _ _)
      rw [split_cons c a b ha] at h
      simp at h
      exact absurd h (splitL_ne _ _)
    · rw [split_none c l hc]; rfl
  | k + 1, l => by
    by_cases hc : c ∈ l
    · obtain ⟨a, b, rfl, ha⟩ := first_of c l hc
      obtain ⟨i1, i2⟩ := splitK_split c k b
      have e1 : ((a.length : Int) == -1) = false := by rw [beq_eq_false_iff_ne]; omega
      have e : Lib.splitK [c] 0 (k + 1) (a ++ c :: b) = a :: Lib.splitK [c] 0 k b := by
        rw [Lib.splitK, index_one c a b ha, e1, if_neg (by decide)]
        simp
      rw [e, split_cons c a b ha]
      refine ⟨by simp [i1], fun h => ?_⟩
      rw [i2 (by simpa using h)]
    · rw [Lib.splitK, index_no c l hc, split_none c l hc]
      exact ⟨by simp, fun _ => by simp⟩

/-! ### reading -/
def rdAll (p s : Int) : List (List UInt8) → Option (List St4)
  | [] => some []
  | w :: ws => match rd p s w with
    | none => none
    | some x => match rdAll p s ws with
      | none => none
      | some xs => some (x :: xs)
theorem rdAll_snoc (p s : Int) : ∀ (ws : List (List UInt8)) (w : List UInt8) (xs : List St4) (x : St4), rdAll p s ws = some xs → rd p s w = some x → rdAll p s (ws ++ [w]) = some (xs ++ [x])
  | [], w, xs, x, h, hx => by
    simp only [rdAll, Option.some.injEq] at h
    subst h
    show rdAll p s [w] = _
    simp [rdAll, hx]
  | v :: ws, w, xs, x, h, hx => by
    rw [rdAll] at h
    cases e : rd p s v with
    | none => rw [e] at h; cases h
    | some y =>
      rw [e] at h
      simp only at h
      cases e2 : rdAll p s ws with
      | none => rw [e2] at h; cases h
      | some ys =>
        rw [e2] at h
        simp only [Option.some.injEq] at h
        subst h
        have := rdAll_snoc p s ws w ys x e2 hx
        rw [List.cons_append, rdAll, e]
        simp only
        rw [this]
        rfl
theorem rdAll_fail (p s : Int) : ∀ (ws : List (List UInt8)) (w : List UInt8), w ∈ ws → rd p s w = none → rdAll p s ws = none
  | [], w, h, _ => by simp at h
  | v :: ws, w, h, hw => by
    rw [rdAll]
    rcases List.mem_cons.1 h with rfl | h
    · rw [hw]
    · rw [rdAll_fail p s ws w h hw]
      cases rd p s v <;> rfl
theorem rdAll_len (p s : Int) : ∀ (ws : List (List UInt8)) (xs : List St4), rdAll p s ws = some xs → xs.length = ws.length
  | [], xs, h => by simp only [rdAll, Option.some.injEq] at h; subst h; rfl
  | w :: ws, xs, h => by
    rw [rdAll] at h
    cases e : rd p s w with
    | none => rw [e] at h; cases h
    | some y =>
      rw [e] at h
      simp only at h
      cases e2 : rdAll p s ws with
      | none => rw [e2] at h; cases h
      | some ys =>
        rw [e2] at h
        simp only [Option.some.injEq] at h
        subst h
        simp [rdAll_len p s ws ys e2]
/-- What is read from the text of steps. -/
def rds (p s : Int) (l : List UInt8) : Option (List St4) := if l = [45] then some [] else if 4 < (splitL 32 l).length then none else rdAll p s (splitL 32 l)
theorem rds_len {p s : Int} {l : List UInt8} {xs : List St4} (h : rds p s l = some xs) : xs.length ≤ 4 := by
  unfold rds at h
  split at h
  · simp only [Option.some.injEq] at h; subst h; simp
  · split at h
    · cases h
    · rw [rdAll_len p s _ _ h]; omega
theorem rds_nil {p s : Int} (hp : p ≤ 24) (hs : s ≤ 6) : rds p s [] = none := by
  unfold rds
  rw [if_neg (by simp), if_neg (by decide)]
  refine rdAll_fail p s _ [] (by simp [splitL]) ?_
  cases e : rd p s [] with
  | none => rfl
  | some x =>
    obtain ⟨f, t, d, h⟩ := x
    obtain ⟨a, b⟩ := rd_some e
    have := (stT_len hp hs a).2
    rw [b] at this
    simp at this
end Go.Proofs.YthfhiggageejbaaDoor
