/- The plays of a roll: mathematics. -/
import Derived.Test.YtokjkcnjmfbfiaaPly
import Derived.Test.YtokjkcnjmfbfiaaStepM
namespace Go.Proofs.Ytokjkcnjmfbfiaa
open Go.ChangeShapes Go.WideShapes Go.ChangeAt Go.RowKit
set_option linter.unusedVariables false
set_option linter.unusedSimpArgs false

/-- The sequences that come from one by one more step. -/
def oneMore (P : Nat) (p : Ply) (t : Stp) : Ply := (p.1 ++ [t], mvX p.2.1 t.1 t.2.1 1, mvY P p.2.2 t.2.1 t.2.2.2 1)
def cand (P : Nat) (h d : Int) (p : Ply) : List Ply := (legL P h p.2.1 p.2.2 d).map (oneMore P p)
/-- Of the sequences that lead to one board the first is kept. -/
def addP (out : List Ply) (p : Ply) : List Ply := if out.any (fun q => decide (q.2 = p.2)) = true then out else out ++ [p]
def addAll (out : List Ply) (l : List Ply) : List Ply := l.foldl addP out
def nextP (P : Nat) (h d : Int) (l : List Ply) : List Ply := addAll [] (l.flatMap (cand P h d))
theorem addAll_append (out l m : List Ply) : addAll out (l ++ m) = addAll (addAll out l) m := by simp [addAll]
theorem addAll_snoc (out l : List Ply) (x : Ply) : addAll out (l ++ [x]) = addP (addAll out l) x := by simp [addAll]
theorem addP_length (out : List Ply) (p : Ply) : (addP out p).length ≤ out.length + 1 := by
  unfold addP
  split <;> simp
theorem addAll_length : ∀ (l out : List Ply), (addAll out l).length ≤ out.length + l.length
  | [], out => by simp [addAll]
  | x :: l, out => by
    have h1 := addAll_length l (addP out x)
    have h2 := addP_length out x
    simp only [addAll, List.foldl_cons, List.length_cons] at h1 ⊢
    omega
theorem addP_mem {out : List Ply} {p q : Ply} (h : q ∈ addP out p) : q ∈ out ∨ q = p := by
  unfold addP at h
  split at h
  · exact .inl h
  · rcases List.mem_append.1 h with h | h
    · exact .inl h
    · simp at h; exact .inr h
theorem addAll_mem : ∀ {l out : List Ply} {q : Ply}, q ∈ addAll out l → q ∈ out ∨ q ∈ l
  | [], out, q, h => .inl h
  | x :: l, out, q, h => by
    rcases addAll_mem (l := l) (out := addP out x) h with h | h
    · rcases addP_mem h with h | h
      · exact .inl h
      · exact .inr (by simp [h])
    · exact .inr (by simp [h])
theorem cand_length (P : Nat) (h d : Int) (p : Ply) : (cand P h d p).length ≤ P + 1 := by
  unfold cand
  rw [List.length_map]
  exact legL_length P h _ _ d
theorem flat_length (P : Nat) (h d : Int) : ∀ l : List Ply, (l.flatMap (cand P h d)).length ≤ l.length * (P + 1)
  | [] => by simp
  | x :: l => by
    have h1 := flat_length P h d l
    have h2 := cand_length P h d x
    rw [List.flatMap_cons, List.length_append, List.length_cons, Nat.add_mul]
    omega
theorem nextP_length (P : Nat) (h d : Int) (l : List Ply) : (nextP P h d l).length ≤ l.length * (P + 1) := by
  have h1 := addAll_length (l.flatMap (cand P h d)) []
  have h2 := flat_length P h d l
  unfold nextP
  rw [List.length_nil] at h1
  omega
/-- The place of the first play with a board, or -1. -/
def findP (b : List Int × List Int) : List Ply → Nat → Int
  | [], _ => -1
  | q :: l, n => if q.2 = b then (n : Int) else findP b l (n + 1)
theorem findP_neg (b : List Int × List Int) : ∀ (l : List Ply) (n : Nat), findP b l n < 0 ↔ ¬ (l.any (fun q => decide (q.2 = b)) = true)
  | [], n => by simp [findP]
  | q :: l, n => by
    rw [findP, List.any_cons]
    by_cases e : q.2 = b
    · rw [if_pos e, decide_eq_true e]
      simp
    · rw [if_neg e, decide_eq_false e, findP_neg b l (n + 1)]
      simp
theorem findP_bound (b : List Int × List Int) : ∀ (l : List Ply) (n : Nat), -1 ≤ findP b l n ∧ findP b l n < (n : Int) + l.length + 1
  | [], n => by simp [findP]; omega
  | q :: l, n => by
    rw [findP]
    split
    · simp; omega
    · have := findP_bound b l (n + 1)
      simp
      omega
/-- Every board of a list is valid. -/
def Fine (p c h s : Int) (l : List Ply) : Prop := ∀ q ∈ l, isB p c h s q.2.1 q.2.2 = true
theorem legL_leg {P : Nat} {c h s d : Int} {xs ys : List Int} {t : Stp} (g : isB (P : Int) c h s xs ys = true) (hd : inB d 1 s = true) (ht : t ∈ legL P h xs ys d) : legB P h s xs ys t = true := by
  unfold legL at ht
  split at ht
  · simp at ht
  · rename_i ho
    have : ∀ n, n ≤ P + 1 → t ∈ legTo P h xs ys d n → ∃ k, k ≤ P ∧ stepI P h xs ys k d = some t := by
      intro n
      induction n with
      | zero => intro _ h; simp [legTo] at h
      | succ n ih =>
        intro hn h
        rw [legTo, List.mem_append] at h
        rcases h with h | h
        · exact ⟨n, by omega, by simpa using h⟩
        · exact ih (by omega) h
    obtain ⟨k, hk, e⟩ := this _ (Nat.le_refl _) ht
    obtain ⟨e1, -, e3, -⟩ := stepI_form e
    rw [legB_S, e1, e3, hd, show inB (k : Int) 0 (P : Int) = true by simp [inB]; omega, show ((k : Int)).toNat = k by simp]
    unfold stepS
    rw [if_neg ho, e]
    simp
theorem cand_fine {P : Nat} {c h s d : Int} {p : Ply} (g : isB (P : Int) c h s p.2.1 p.2.2 = true) (hd : inB d 1 s = true) : Fine (P : Int) c h s (cand P h d p) := by
  intro q hq
  obtain ⟨t, ht, rfl⟩ := List.mem_map.1 hq
  obtain ⟨a, b, d', q⟩ := t
  exact (step_facts g (legL_leg g hd ht)).1
theorem nextP_fine {P : Nat} {c h s d : Int} {l : List Ply} (g : Fine (P : Int) c h s l) (hd : inB d 1 s = true) : Fine (P : Int) c h s (nextP P h d l) := by
  intro q hq
  rcases addAll_mem hq with h | h
  · simp at h
  · obtain ⟨p, hp, hq⟩ := List.mem_flatMap.1 h
    exact cand_fine (g p hp) hd q hq
/-- What has been kept when i sequences and k steps of the next one are over. -/
def kept (P : Nat) (h d : Int) (l : List Ply) (i : Nat) (m : List Stp) (p : Ply) (k : Nat) : List Ply := addAll (addAll [] ((l.take i).flatMap (cand P h d))) ((m.take k).map (oneMore P p))
/-- The lists of a length for an order of the dice: as long as possible. -/
def longP (P : Nat) (h : Int) : List Int → List Ply → List Ply
  | [], l => l
  | d :: ds, l => if nextP P h d l = [] then l else longP P h ds (nextP P h d l)
def longN (P : Nat) (h : Int) : List Int → List Ply → Nat
  | [], l => 0
  | d :: ds, l => if nextP P h d l = [] then 0 else longN P h ds (nextP P h d l) + 1
def fineP (P : Nat) (h : Int) : List Int → List Ply → Bool
  | [], l => true
  | d :: ds, l => decide ((nextP P h d l).length ≤ 3000) && (if nextP P h d l = [] then true else fineP P h ds (nextP P h d l))
def startP (xs ys : List Int) : List Ply := [([], xs, ys)]
def ordersP (ra rb : Int) : List (List Int) := if ra = rb then [[ra, ra, ra, ra]] else [[ra, rb], [rb, ra]]
def usedP (P : Nat) (h : Int) (xs ys : List Int) (ra rb : Int) : Nat := ((ordersP ra rb).map (fun o => longN P h o (startP xs ys))).foldl max 0
theorem longN_le (P : Nat) (h : Int) : ∀ (o : List Int) (l : List Ply), longN P h o l ≤ o.length
  | [], l => by simp [longN]
  | d :: ds, l => by
    have := longN_le P h ds (nextP P h d l)
    rw [longN]
    split <;> simp <;> omega
end Go.Proofs.Ytokjkcnjmfbfiaa
