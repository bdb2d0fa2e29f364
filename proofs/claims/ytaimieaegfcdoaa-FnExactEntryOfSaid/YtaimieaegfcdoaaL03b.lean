/- Contracts of chapter 3: the number of a side, of the program and of its model. -/
import Derived.Test.YtaimieaegfcdoaaL03a
import Derived.Test.YtaimieaegfcdoaaL02a
import Derived.Test.YtaimieaegfcdoaaImpl02c
import Derived.BigQuiet
import Derived.Deep.QuietTactic
namespace Go.Proofs.Ytaimieaegfcdoaa
open Go.ChangeShapes Go.WideShapes Go.ChangeAt Go.RowKit
set_option linter.unusedVariables false
set_option linter.unusedSimpArgs false
set_option maxRecDepth 4000

theorem drop_cons (ns : List Nat) (k : Nat) (h : k < ns.length) : ns.drop k = ns.getD k 0 :: ns.drop (k + 1) := by
  rw [List.drop_eq_getElem_cons h]; simp [h]
/-- One place of a side: its number and what is left. -/
theorem num_step (ns : List Nat) (k L N T n : Nat) (hn : ns.length = n) (h : k < n) (hT : N + numL (ns.drop k) L = T) (hs : (ns.drop k).sum ≤ L) :
    ∃ x, ns.getD k 0 = x ∧ x ≤ L ∧ N + blk (n - 1 - k) L x + numL (ns.drop (k + 1)) (L - x) = T ∧ (ns.drop (k + 1)).sum ≤ L - x := by
  subst hn
  rw [drop_cons ns k h] at hT hs
  simp only [List.sum_cons] at hs
  refine ⟨ns.getD k 0, rfl, by omega, ?_, by omega⟩
  rw [numL, List.length_drop] at hT
  rw [show ns.length - 1 - k = ns.length - (k + 1) by omega]
  omega
theorem blk_upto (b l : Nat) {i j : Nat} (h : i ≤ j) : blk b l i ≤ blk b l j := by
  by_cases e : i = j
  · subst e; omega
  · have := blk_mono b l (show i < j by omega); omega
/-- A side's places as natural numbers. -/
def nats (xs : List Int) : List Nat := xs.map Int.toNat
theorem nats_length (xs : List Int) : (nats xs).length = xs.length := by simp [nats]
theorem nats_getD (xs : List Int) (k : Nat) (h : k < xs.length) : (nats xs).getD k 0 = (xs.getD k 0).toNat := by simp [nats, h]
theorem nats_sum : ∀ (xs : List Int), (∀ x ∈ xs, 0 ≤ x) → ((nats xs).sum : Int) = xs.sum
  | [], _ => rfl
  | x :: xs, h => by
    have h1 := h x (by simp)
    have h2 := nats_sum xs (fun y hy => h y (by simp [hy]))
    simp only [nats, List.map_cons, List.sum_cons] at h2 ⊢
    omega
theorem side_nats {p c : Int} {xs : List Int} (g : sideB p c xs = true) (c0 : 0 ≤ c) : (nats xs).length = xs.length ∧ (nats xs).sum ≤ c.toNat ∧ ∀ k, k < xs.length → xs.getD k 0 = ((nats xs).getD k 0 : Int) := by
  obtain ⟨h1, h2, h3⟩ := sideB_iff.1 g
  have hs := nats_sum xs (fun x hx => (h2 x hx).1)
  refine ⟨nats_length xs, by omega, fun k hk => ?_⟩
  rw [nats_getD xs k hk]
  have := (h2 _ (getD_mem hk)).1
  omega
/-- A side of a variant. -/
def okS (p c h s : Int) (xs : List Int) : Bool := vB p c h s && sideB p c xs
def snI (p c h s : Int) (xs : List Int) : Int := if okS p c h s xs = true then (numL (nats xs) c.toNat : Int) else 0
def seI (p c h s : Int) (xs : List Int) : Int := if okS p c h s xs = true then 0 else 1
end Go.Proofs.Ytaimieaegfcdoaa
