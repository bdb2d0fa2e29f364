/- Plain mathematics of chapter 3: bits one by one, and the bits of an identifier. -/
import Derived.Test.YtkddeoifdecniaaLetM
namespace Go.Proofs.Ytkddeoifdecniaa
set_option linter.unusedVariables false
set_option linter.unusedSimpArgs false

theorem cib_app : ∀ (A : List Int) (n : Nat) (B : List Int), cib n (A ++ B) = cib n A ++ cib (trl n A) B ∧ trl n (A ++ B) = trl (trl n A) B
  | [], n, B => by simp [cib, trl]
  | a :: A, n, B => by
    have e1 : cib n (a :: (A ++ B)) = if a = 1 then cib (n + 1) (A ++ B) else (n : Int) :: cib 0 (A ++ B) := rfl
    have e2 : trl n (a :: (A ++ B)) = if a = 1 then trl (n + 1) (A ++ B) else trl 0 (A ++ B) := rfl
    have e3 : cib n (a :: A) = if a = 1 then cib (n + 1) A else (n : Int) :: cib 0 A := rfl
    have e4 : trl n (a :: A) = if a = 1 then trl (n + 1) A else trl 0 A := rfl
    rw [List.cons_append, e1, e2, e3, e4]
    by_cases h : a = 1
    · rw [if_pos h, if_pos h, if_pos h, if_pos h]
      exact cib_app A (n + 1) B
    · rw [if_neg h, if_neg h, if_neg h, if_neg h]
      have q := cib_app A 0 B
      exact ⟨by rw [q.1]; rfl, q.2⟩
theorem take_snoc (bs : List Int) (k : Nat) (h : k < bs.length) : bs.take (k + 1) = bs.take k ++ [bs.getD k 0] := by
  rw [List.take_succ_eq_append_getElem h]
  simp [h]
theorem cib_count (bs : List Int) (k : Nat) (h : k < bs.length) : (cib 0 (bs.take (k + 1))).length = (cib 0 (bs.take k)).length + (if bs.getD k 0 = 1 then 0 else 1) ∧ (bs.getD k 0 ≠ 1 → trl 0 (bs.take (k + 1)) = 0) := by
  rw [take_snoc bs k h]
  obtain ⟨v, hv⟩ : ∃ v, bs.getD k 0 = v := ⟨_, rfl⟩
  rw [hv]
  obtain ⟨h1, h2⟩ := cib_app (bs.take k) 0 [v]
  rw [h1, h2]
  by_cases q : v = 1
  · rw [if_pos q]
    exact ⟨by simp [cib, q], fun e => absurd q e⟩
  · rw [if_neg q]
    exact ⟨by simp [cib, q], fun _ => by simp [trl, q]⟩
/-- Bits whose first part ends with a zero: the counts of that part come first. -/
theorem cib_part (bs : List Int) (k : Nat) (h : trl 0 (bs.take k) = 0) : cib 0 bs = cib 0 (bs.take k) ++ cib 0 (bs.drop k) := by
  have q := (cib_app (bs.take k) 0 (bs.drop k)).1
  rwa [List.take_append_drop, h] at q
theorem cib_part_take (bs : List Int) (k Z : Nat) (h : trl 0 (bs.take k) = 0) (hl : (cib 0 (bs.take k)).length = 2 * Z) : (cib 0 bs).take Z = (cib 0 (bs.take k)).take Z ∧ ((cib 0 bs).drop Z).take Z = (cib 0 (bs.take k)).drop Z ∧ 2 * Z ≤ (cib 0 bs).length := by
  rw [cib_part bs k h]
  refine ⟨?_, ?_, by simp; omega⟩
  · rw [List.take_append_of_le_length (by omega)]
  · rw [List.drop_append_of_le_length (by omega), List.take_append_of_le_length (by simp; omega), List.take_of_length_le (by simp; omega)]
theorem letters_idx : ∀ u : Fin 64, idx (letters.getD u.val 0) = (u.val : Int) := by decide +kernel
theorem bits6_val (a b c d e f : Int) (ha : a = 0 ∨ a = 1) (hb : b = 0 ∨ b = 1) (hc : c = 0 ∨ c = 1) (hd : d = 0 ∨ d = 1) (he : e = 0 ∨ e = 1) (hf : f = 0 ∨ f = 1) :
    bits6 (32 * a + 16 * b + 8 * c + 4 * d + 2 * e + f).toNat = [a, b, c, d, e, f] := by
  rcases ha with rfl | rfl <;> rcases hb with rfl | rfl <;> rcases hc with rfl | rfl <;> rcases hd with rfl | rfl <;> rcases he with rfl | rfl <;> rcases hf with rfl | rfl <;> rfl
/-- The bits of an identifier are the bits themselves, filled up with zeros. -/
theorem sbits_idS (xs : List Int) (h : Bin xs) : sbits (idS xs) = xs ++ List.replicate (6 * groupsN xs - xs.length) 0 := by
  have hg : xs.length ≤ 6 * groupsN xs := by unfold groupsN; omega
  have key : ∀ n, n ≤ groupsN xs → sbits ((List.range n).map fun g => letters.getD (val6 xs g).toNat 0) = (xs ++ List.replicate (6 * groupsN xs - xs.length) 0).take (6 * n) := by
    intro n
    induction n with
    | zero => intro _; simp [sbits]
    | succ n ih =>
      intro hn
      have e := ih (by omega)
      rw [List.range_succ, List.map_append]
      unfold sbits at e ⊢
      rw [List.map_append, List.flatten_append, e]
      obtain ⟨ys, hys⟩ : ∃ ys, xs ++ List.replicate (6 * groupsN xs - xs.length) 0 = ys := ⟨_, rfl⟩
      have hyl : ys.length = 6 * groupsN xs := by rw [← hys]; simp; omega
      have hyd : ∀ j, xs.getD j 0 = ys.getD j 0 := by
        intro j
        rw [← hys]
        by_cases hj : j < xs.length
        · simp [List.getD, List.getElem?_append_left hj]
        · simp only [List.getD, List.getElem?_append_right (Nat.le_of_not_lt hj), List.getElem?_eq_none (Nat.le_of_not_lt hj), List.getElem?_replicate]
          split <;> rfl
      rw [hys]
      have hb := val6_bound h n
      have h64 := letters_idx ⟨(val6 xs n).toNat, by omega⟩
      simp only [List.map_cons, List.map_nil, List.flatten_cons, List.flatten_nil, List.append_nil]
      rw [h64]
      show ys.take (6 * n) ++ bits6 (val6 xs n).toNat = _
      rw [val6, bits6_val _ _ _ _ _ _ (h.getD _) (h.getD _) (h.getD _) (h.getD _) (h.getD _) (h.getD _)]
      simp only [hyd]
      rw [show 6 * (n + 1) = 6 * n + 5 + 1 by omega, take_snoc ys _ (by omega), take_snoc ys _ (by omega), take_snoc ys (6 * n + 3) (by omega), take_snoc ys (6 * n + 2) (by omega), take_snoc ys (6 * n + 1) (by omega), take_snoc ys (6 * n) (by omega)]
      simp
  have q := key (groupsN xs) (Nat.le_refl _)
  rw [List.take_of_length_le (by simp; omega)] at q
  exact q
theorem onlyL_idS (xs : List Int) (h : Bin xs) : onlyL (idS xs) = true := by
  unfold onlyL idS
  rw [List.all_map, List.all_eq_true]
  intro g hg
  have hb := val6_bound h g
  have h64 := letters_idx ⟨(val6 xs g).toNat, by omega⟩
  simp only [Function.comp_apply, decide_eq_true_eq]
  rw [h64]
  omega
end Go.Proofs.Ytkddeoifdecniaa
