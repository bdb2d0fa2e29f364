/- Plain mathematics of the text of a turn: where it is cut, and what is read from it. -/
import Derived.Test.YthfhiggageejbaaDoorM06b
import Derived.Test.YthfhiggageejbaaDoorM06r
namespace Go.Proofs.YthfhiggageejbaaDoor
set_option linter.unusedVariables false
set_option linter.unusedSimpArgs false

def both {α β : Type} : Option α → Option β → Option (α × β)
  | some a, some b => some (a, b)
  | _, _ => none
theorem both_none_left {α β : Type} (b : Option β) : both (none : Option α) b = none := by cases b <;> rfl
theorem both_none_right {α β : Type} (a : Option α) : both a (none : Option β) = none := by cases a <;> rfl
/-- What the model reads from the text of a turn. -/
def rdT (p s : Int) (l : List UInt8) : Option ((Int × Int) × List St4) :=
  if 4 ≤ l.length ∧ (l.take 4).drop 2 = [58, 32] then both (rdR s (l.take 2)) (rds p s (l.drop 4)) else none
theorem rdR_some {s : Int} {l : List UInt8} {r : Int × Int} (h : rdR s l = some r) : l.length = 2 := by
  unfold rdR at h
  split at h
  · rename_i q; exact q.1
  · cases h
theorem rdR_head {s : Int} (hs : s ≤ 6) {l : List UInt8} {r : Int × Int} (h : rdR s l = some r) : (l.getD 0 0).toNat ≤ 54 ∧ (l.getD 1 0).toNat ≤ 54 := by
  unfold rdR at h
  split at h
  · rename_i q
    have := q.2
    unfold rlB inB at this
    simp only [Bool.and_eq_true, decide_eq_true_eq] at this
    omega
  · cases h
theorem occ_two (l : List UInt8) : (4 ≤ l.length ∧ (l.take 4).drop 2 = [58, 32]) ↔ Lib.occAt l [58, 32] 2 = true := by
  by_cases h : 4 ≤ l.length
  · rw [Lib.occAt_iff_take l [58, 32] 2 (by simpa using h), List.drop_take]
    simp [h]
  · constructor
    · exact fun q => absurd q.1 h
    · intro q
      rcases Lib.occAt_room q with r | r
      · exact absurd (by simpa using r) h
      · cases r
/-- Cutting at the first colon and blank reads the same. -/
theorem rdT_cut {p s : Int} (hp : p ≤ 24) (hs : s ≤ 6) (l : List UInt8) : both (rdR s (Lib.cut l [58, 32]).1) (rds p s (Lib.cut l [58, 32]).2.1) = rdT p s l := by
  unfold rdT
  rcases Lib.index_spec l [58, 32] with ⟨h1, h2⟩ | ⟨i, h1, h2, h3, h4⟩
  · have e : Lib.cut l [58, 32] = (l, [], false) := by unfold Lib.cut; rw [h1, if_neg (by decide)]
    rw [e]
    show both (rdR s l) (rds p s []) = _
    rw [rds_nil hp hs, both_none_right, if_neg]
    intro q
    have := h2 2 (by omega)
    rw [(occ_two l).1 q] at this
    cases this
  · have e : Lib.cut l [58, 32] = (l.take i, l.drop (i + 2), true) := by unfold Lib.cut; rw [h1, if_pos (by omega)]; rfl
    rw [e]
    show both (rdR s (l.take i)) (rds p s (l.drop (i + 2))) = _
    by_cases hi : i = 2
    · subst hi
      rw [if_pos ((occ_two l).2 h3)]
    · have n1 : rdR s (l.take i) = none := by
        cases k : rdR s (l.take i) with
        | none => rfl
        | some r =>
          have := rdR_some k
          rw [List.length_take] at this
          omega
      rw [n1, both_none_left]
      by_cases q : 4 ≤ l.length ∧ (l.take 4).drop 2 = [58, 32]
      · rw [if_pos q]
        have hlt : i < 2 := by
          have q2 := (occ_two l).1 q
          by_cases hi2 : i < 2
          · exact hi2
          · have := h4 2 (by omega)
            rw [q2] at this
            cases this
        have h58 := Lib.occAt_head (t := [32]) rfl h3
        have n2 : rdR s (l.take 2) = none := by
          cases k : rdR s (l.take 2) with
          | none => rfl
          | some r =>
            exfalso
            have := rdR_head hs k
            have q1 := q.1
            match l, q1 with
            | a :: b :: r2, _ =>
              rcases (by omega : i = 0 ∨ i = 1) with rfl | rfl
              · simp at h58
                subst h58
                simp at this
              · simp at h58
                subst h58
                simp at this
        rw [n2, both_none_left]
      · rw [if_neg q]
end Go.Proofs.YthfhiggageejbaaDoor
