/- Plain mathematics of chapter 3: the counts of which bits are the groups. -/
import Derived.Test.YtkddeoifdecniaaL03h
namespace Go.Proofs.Ytkddeoifdecniaa
set_option linter.unusedVariables false
set_option linter.unusedSimpArgs false

/-- The counts in bits, n ones having been seen; ones that no zero ends are left out. -/
def cib : Nat → List Int → List Int
  | _, [] => []
  | n, b :: bs => if b = 1 then cib (n + 1) bs else (n : Int) :: cib 0 bs
/-- How many ones are left over. -/
def trl : Nat → List Int → Nat
  | n, [] => n
  | n, b :: bs => if b = 1 then trl (n + 1) bs else trl 0 bs
theorem cib_length : ∀ (n : Nat) (bs : List Int), (cib n bs).length ≤ bs.length
  | _, [] => by simp [cib]
  | n, b :: bs => by
    have h1 := cib_length (n + 1) bs
    have h2 := cib_length 0 bs
    unfold cib
    split
    · simp; omega
    · simp; omega
theorem cib_ones (n k : Nat) (bs : List Int) : cib n (List.replicate k 1 ++ bs) = cib (n + k) bs := by
  induction k generalizing n with
  | zero => simp
  | succ k ih =>
    rw [List.replicate_succ, List.cons_append, cib, if_pos rfl, ih, show n + 1 + k = n + (k + 1) by omega]
theorem trl_ones (n k : Nat) (bs : List Int) : trl n (List.replicate k 1 ++ bs) = trl (n + k) bs := by
  induction k generalizing n with
  | zero => simp
  | succ k ih =>
    rw [List.replicate_succ, List.cons_append, trl, if_pos rfl, ih, show n + 1 + k = n + (k + 1) by omega]
theorem cib_bits : ∀ (xs : List Int) (rest : List Int), (∀ x ∈ xs, 0 ≤ x) → cib 0 (bitsL xs ++ rest) = xs ++ cib 0 rest
  | [], rest, _ => by simp [bitsL]
  | x :: xs, rest, h => by
    have hx := h x (by simp)
    rw [bitsL_cons, grpL, List.append_assoc, List.append_assoc, cib_ones]
    show cib (0 + x.toNat) (0 :: (bitsL xs ++ rest)) = _
    rw [cib, if_neg (by decide), cib_bits xs rest (fun y hy => h y (by simp [hy]))]
    rw [show ((0 + x.toNat : Nat) : Int) = x by omega]
    rfl
theorem trl_bits : ∀ (xs : List Int) (rest : List Int), trl 0 (bitsL xs ++ rest) = trl 0 rest
  | [], rest => by simp [bitsL]
  | x :: xs, rest => by
    rw [bitsL_cons, grpL, List.append_assoc, List.append_assoc, trl_ones]
    show trl (0 + x.toNat) (0 :: (bitsL xs ++ rest)) = _
    rw [trl, if_neg (by decide), trl_bits xs rest]
/-- Bits are their counts' groups and the ones left over. -/
theorem bits_cib : ∀ (n : Nat) (bs : List Int), Bin bs → List.replicate n 1 ++ bs = bitsL (cib n bs) ++ List.replicate (trl n bs) 1
  | n, [], _ => by simp [cib, trl, bitsL]
  | n, b :: bs, h => by
    have hb : Bin bs := fun x hx => h x (by simp [hx])
    unfold cib trl
    by_cases h1 : b = 1
    · subst h1
      rw [if_pos rfl, if_pos rfl, ← bits_cib (n + 1) bs hb, ← List.replicate_append_replicate (n := n) (m := 1), List.append_assoc]
      rfl
    · have h0 : b = 0 := by
        rcases h b (by simp) with h0 | h0
        · exact h0
        · exact absurd h0 h1
      subst h0
      rw [if_neg (by decide), if_neg (by decide), bitsL_cons, List.append_assoc, ← bits_cib 0 bs hb]
      simp [grpL]
theorem cib_nonneg : ∀ (n : Nat) (bs : List Int), ∀ x ∈ cib n bs, 0 ≤ x
  | _, [], x, hx => by simp [cib] at hx
  | n, b :: bs, x, hx => by
    unfold cib at hx
    split at hx
    · exact cib_nonneg _ bs x hx
    · rcases List.mem_cons.1 hx with rfl | hx
      · omega
      · exact cib_nonneg _ bs x hx
theorem cib_step (n : Nat) (bs : List Int) (k : Nat) (h : k < bs.length) : cib n (bs.drop k) = (if bs.getD k 0 = 1 then cib (n + 1) (bs.drop (k + 1)) else (n : Int) :: cib 0 (bs.drop (k + 1))) ∧ trl n (bs.drop k) = (if bs.getD k 0 = 1 then trl (n + 1) (bs.drop (k + 1)) else trl 0 (bs.drop (k + 1))) := by
  rw [List.drop_eq_getElem_cons h]
  simp only [cib, trl]
  rw [show bs.getD k 0 = bs[k] by simp [h]]
  exact ⟨rfl, rfl⟩
end Go.Proofs.Ytkddeoifdecniaa
