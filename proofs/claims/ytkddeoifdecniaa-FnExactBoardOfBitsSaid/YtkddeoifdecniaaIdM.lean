/- Plain mathematics of chapter 3: bits in groups of six, and their letters. -/
import Derived.Test.YtkddeoifdecniaaM02
namespace Go.Proofs.Ytkddeoifdecniaa
set_option linter.unusedVariables false
set_option linter.unusedSimpArgs false

def letters : List UInt8 := [65, 66, 67, 68, 69, 70, 71, 72, 73, 74, 75, 76, 77, 78, 79, 80, 81, 82, 83, 84, 85, 86, 87, 88, 89, 90, 97, 98, 99, 100, 101, 102, 103, 104, 105, 106, 107, 108, 109, 110, 111, 112, 113, 114, 115, 116, 117, 118, 119, 120, 121, 122, 48, 49, 50, 51, 52, 53, 54, 55, 56, 57, 43, 45]
theorem letters_length : letters.length = 64 := rfl
/-- Bits: each 0 or 1. -/
def Bin (xs : List Int) : Prop := ∀ x ∈ xs, x = 0 ∨ x = 1
theorem Bin.getD {xs : List Int} (h : Bin xs) (k : Nat) : xs.getD k 0 = 0 ∨ xs.getD k 0 = 1 := by
  by_cases hk : k < xs.length
  · exact h _ (getD_mem hk)
  · left
    simp [List.getD, List.getElem?_eq_none (Nat.le_of_not_lt hk)]
theorem Bin.take {xs : List Int} (h : Bin xs) (k : Nat) : Bin (xs.take k) := fun x hx => h x (List.mem_of_mem_take hx)
theorem Bin.append {xs ys : List Int} (h : Bin xs) (k : Bin ys) : Bin (xs ++ ys) := fun x hx => by
  rcases List.mem_append.1 hx with h1 | h1
  · exact h x h1
  · exact k x h1
/-- The number of group g. -/
def val6 (xs : List Int) (g : Nat) : Int := 32 * xs.getD (6 * g) 0 + 16 * xs.getD (6 * g + 1) 0 + 8 * xs.getD (6 * g + 2) 0 + 4 * xs.getD (6 * g + 3) 0 + 2 * xs.getD (6 * g + 4) 0 + xs.getD (6 * g + 5) 0
theorem val6_bound {xs : List Int} (h : Bin xs) (g : Nat) : 0 ≤ val6 xs g ∧ val6 xs g ≤ 63 := by
  have h0 := h.getD (6 * g)
  have h1 := h.getD (6 * g + 1)
  have h2 := h.getD (6 * g + 2)
  have h3 := h.getD (6 * g + 3)
  have h4 := h.getD (6 * g + 4)
  have h5 := h.getD (6 * g + 5)
  unfold val6
  omega
def groupsN (xs : List Int) : Nat := (xs.length + 5) / 6
/-- The letters of the groups. -/
def idS (xs : List Int) : List UInt8 := (List.range (groupsN xs)).map fun g => letters.getD (val6 xs g).toNat 0
theorem idS_length (xs : List Int) : (idS xs).length = groupsN xs := by simp [idS]
/-- The numbers of the first n groups. -/
def nums (xs : List Int) (n : Nat) : List Int := (List.range n).map (val6 xs)
theorem nums_length (xs : List Int) (n : Nat) : (nums xs n).length = n := by simp [nums]
theorem nums_getD (xs : List Int) (n g : Nat) (h : g < n) : (nums xs n).getD g 0 = val6 xs g := by simp [nums, h]
theorem nums_nil (n : Nat) : nums [] n = List.replicate n 0 := by
  apply List.ext_getElem?
  intro i
  by_cases h : i < n
  · simp [nums, h, val6]
  · simp [nums, h]
theorem take_getD (xs : List Int) (k j : Nat) : (xs.take k).getD j 0 = if j < k then xs.getD j 0 else 0 := by
  by_cases h : j < k
  · rw [if_pos h]; simp [List.getD, List.getElem?_take_of_lt h]
  · rw [if_neg h]; simp [List.getD, List.getElem?_take, h]
/-- One more bit: group g alone grows. -/
theorem val6_take (xs : List Int) (k g : Nat) : val6 (xs.take (k + 1)) g = val6 (xs.take k) g + (if g = k / 6 then xs.getD k 0 * 2 ^ (5 - k % 6) else 0) := by
  unfold val6
  simp only [take_getD]
  obtain ⟨q, r, hr, rfl⟩ : ∃ q r, r < 6 ∧ k = 6 * q + r := ⟨k / 6, k % 6, by omega, by omega⟩
  have e1 : (6 * q + r) / 6 = q := by omega
  have e2 : (6 * q + r) % 6 = r := by omega
  rw [e1, e2]
  by_cases hg : g = q
  · subst hg
    rw [if_pos rfl]
    obtain rfl | rfl | rfl | rfl | rfl | rfl : r = 0 ∨ r = 1 ∨ r = 2 ∨ r = 3 ∨ r = 4 ∨ r = 5 := by omega
    · simp only [show (6 * g < 6 * g + 0 + 1) = True from by simp, show (6 * g < 6 * g + 0) = False from by simp, if_true, if_false]
      repeat rw [if_neg (by omega)]
      simp
      omega
    · repeat first | rw [if_pos (by omega)] | rw [if_neg (by omega)]
      simp
      omega
    · repeat first | rw [if_pos (by omega)] | rw [if_neg (by omega)]
      simp
      omega
    · repeat first | rw [if_pos (by omega)] | rw [if_neg (by omega)]
      simp
      omega
    · repeat first | rw [if_pos (by omega)] | rw [if_neg (by omega)]
      simp
      omega
    · repeat first | rw [if_pos (by omega)] | rw [if_neg (by omega)]
      simp
  · rw [if_neg hg, Int.add_zero]
    have key : ∀ j, j < 6 → (if 6 * g + j < 6 * q + r + 1 then xs.getD (6 * g + j) 0 else 0) = (if 6 * g + j < 6 * q + r then xs.getD (6 * g + j) 0 else 0) := by
      intro j hj
      by_cases h : 6 * g + j < 6 * q + r
      · rw [if_pos h, if_pos (by omega)]
      · rw [if_neg h, if_neg (by omega)]
    have k0 := key 0 (by omega)
    have k1 := key 1 (by omega)
    have k2 := key 2 (by omega)
    have k3 := key 3 (by omega)
    have k4 := key 4 (by omega)
    have k5 := key 5 (by omega)
    rw [Nat.add_zero] at k0
    rw [k0, k1, k2, k3, k4, k5]
theorem nums_step (xs : List Int) (k n : Nat) (h : k / 6 < n) : (nums (xs.take k) n).set (k / 6) (val6 (xs.take k) (k / 6) + xs.getD k 0 * 2 ^ (5 - k % 6)) = nums (xs.take (k + 1)) n := by
  apply List.ext_getElem?
  intro i
  by_cases hi : i = k / 6
  · subst hi
    rw [List.getElem?_set_self (by rw [nums_length]; exact h)]
    simp only [nums, List.getElem?_map, List.getElem?_range h, Option.map_some]
    rw [val6_take, if_pos rfl]
  · rw [List.getElem?_set_ne (by omega)]
    simp only [nums, List.getElem?_map]
    by_cases hin : i < n
    · rw [List.getElem?_range hin]
      simp only [Option.map_some]
      rw [val6_take, if_neg hi, Int.add_zero]
    · rw [List.getElem?_eq_none (by simp; omega)]
      rfl
theorem extract_letter (u : Nat) (h : u < 64) : (⟨letters.toArray⟩ : ByteArray).extract u (u + 1) = ⟨#[letters.getD u 0]⟩ := by
  have h2 : u < letters.length := h
  have e : (letters.drop u).take 1 = [letters.getD u 0] := by
    rw [List.drop_eq_getElem_cons h2, List.take_succ_cons, List.take_zero]
    simp [List.getD, h2]
  apply ByteArray.ext
  apply Array.toList_inj.1
  rw [ByteArray.data_extract]
  simp only [Array.toList_extract, List.extract_eq_take_drop]
  rw [show u + 1 - u = 1 by omega]
  exact e
theorem letter_at (u : Nat) (h : u < (⟨letters.toArray⟩ : ByteArray).size) : (⟨letters.toArray⟩ : ByteArray)[u]'h = letters.getD u 0 := by
  have h2 : u < letters.length := h
  show letters.toArray[u]'h = _
  simp [List.getD, h2]
theorem idS_at (xs : List Int) (k : Nat) (h : k < (idS xs).length) : (idS xs)[k] = letters.getD (val6 xs k).toNat 0 := by simp [idS]
theorem fill_step {α : Type} (xs : List α) (z : α) (k : Nat) (h : k < xs.length) : (xs.take k ++ List.replicate (xs.length - k) z).set k xs[k] = xs.take (k + 1) ++ List.replicate (xs.length - (k + 1)) z := by
  have hk : (xs.take k).length = k := by simp; omega
  rw [List.set_append_right _ _ (by omega), hk, Nat.sub_self, show xs.length - k = (xs.length - (k + 1)) + 1 by omega, List.replicate_succ, List.set_cons_zero, List.take_succ_eq_append_getElem h, List.append_assoc]
  rfl
end Go.Proofs.Ytkddeoifdecniaa
