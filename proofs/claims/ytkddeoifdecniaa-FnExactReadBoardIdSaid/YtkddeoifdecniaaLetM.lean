/- Plain mathematics of chapter 3: the numbers of letters, and the bits of a text. -/
import Derived.Test.YtkddeoifdecniaaCibM
import Derived.Lib.Bytealg
namespace Go.Proofs.Ytkddeoifdecniaa
set_option linter.unusedVariables false
set_option linter.unusedSimpArgs false

/-- The number of a letter, or -1. -/
def idx (c : UInt8) : Int := Lib.indexByte letters c
theorem indexByte_spec (c : UInt8) : ∀ l : List UInt8, (Lib.indexByte l c = -1 ∧ ∀ j, j < l.length → l.getD j 0 ≠ c) ∨ ∃ u : Nat, u < l.length ∧ Lib.indexByte l c = (u : Int) ∧ l.getD u 0 = c ∧ ∀ j, j < u → l.getD j 0 ≠ c
  | [] => .inl ⟨rfl, fun j hj => by simp at hj⟩
  | b :: l => by
    by_cases h : b = c
    · subst h
      exact .inr ⟨0, by simp, by simp [Lib.indexByte], rfl, fun j hj => by omega⟩
    · have hb : (b == c) = false := by rw [beq_eq_false_iff_ne]; exact h
      rcases indexByte_spec c l with ⟨h1, h2⟩ | ⟨u, hu, h1, h2, h3⟩
      · refine .inl ⟨by simp [Lib.indexByte, hb, h1], fun j hj => ?_⟩
        cases j with
        | zero => exact h
        | succ j => exact h2 j (by simpa using hj)
      · refine .inr ⟨u + 1, by simpa using hu, ?_, by simpa using h2, fun j hj => ?_⟩
        · have hne : ((u : Int) == -1) = false := by rw [beq_eq_false_iff_ne]; omega
          simp [Lib.indexByte, hb, h1, hne]
        · cases j with
          | zero => exact h
          | succ j => exact h3 j (by omega)
theorem idx_spec (c : UInt8) : (idx c = -1 ∧ ∀ j, j < 64 → letters.getD j 0 ≠ c) ∨ ∃ u : Nat, u < 64 ∧ idx c = (u : Int) ∧ letters.getD u 0 = c ∧ ∀ j, j < u → letters.getD j 0 ≠ c := indexByte_spec c letters
/-- The six bits of a number. -/
def bits6 (n : Nat) : List Int := [((n / 32 % 2 : Nat) : Int), ((n / 16 % 2 : Nat) : Int), ((n / 8 % 2 : Nat) : Int), ((n / 4 % 2 : Nat) : Int), ((n / 2 % 2 : Nat) : Int), ((n % 2 : Nat) : Int)]
theorem bits6_length (n : Nat) : (bits6 n).length = 6 := rfl
theorem bits6_bin (n : Nat) : Bin (bits6 n) := by
  intro x hx
  simp only [bits6, List.mem_cons, List.not_mem_nil, or_false] at hx
  omega
/-- The bits of a text. -/
def sbits (s : List UInt8) : List Int := (s.map fun c => bits6 (idx c).toNat).flatten
theorem sbits_length (s : List UInt8) : (sbits s).length = 6 * s.length := by
  induction s with
  | nil => rfl
  | cons c s ih =>
    simp only [sbits, List.map_cons, List.flatten_cons, List.length_append, bits6_length, List.length_cons] at ih ⊢
    omega
theorem sbits_bin : ∀ s : List UInt8, Bin (sbits s)
  | [] => fun x hx => by simp [sbits] at hx
  | c :: s => by
    show Bin (bits6 (idx c).toNat ++ sbits s)
    exact (bits6_bin _).append (sbits_bin s)
/-- All bytes are letters. -/
def onlyL (s : List UInt8) : Bool := s.all fun c => decide (0 ≤ idx c)
end Go.Proofs.Ytkddeoifdecniaa
