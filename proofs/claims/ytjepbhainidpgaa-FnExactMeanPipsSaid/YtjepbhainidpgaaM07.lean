/- The mathematics of dice: where a roll stands among all rolls, seeds, shuffled groups of pairs, stratified rolls, weights. -/
import Derived.Test.Ytjepbhainidpgaa05e
namespace Go.Proofs.Ytjepbhainidpgaa
set_option maxRecDepth 20000
set_option linter.unusedVariables false

/-- The seed after a number. -/
def nxS (x : Int) : Int := 48271 * x % 2147483647
theorem nxS_seed {x : Int} (h : 1 ≤ x ∧ x ≤ 2147483646) : 1 ≤ nxS x ∧ nxS x ≤ 2147483646 := by
  unfold nxS
  omega
/-- The roll of two faces. -/
def prR (a b : Int) : Rl := (max a b, min a b)
theorem prR_A (a b : Int) : (prR a b).1 = max a b := rfl
theorem prR_B (a b : Int) : (prR a b).2 = min a b := rfl
theorem rollsTo_len2 : ∀ S : Nat, 2 * (rollsTo S).length = S * (S + 1)
  | 0 => by simp [rollsTo]
  | S + 1 => by
    have := rollsTo_len2 S
    rw [rollsTo, List.length_append, List.length_map, List.length_range, Nat.mul_add, this]
    simp only [Nat.mul_add, Nat.add_mul]
    omega
/-- Where a roll stands in the list of all rolls. -/
theorem rollsTo_num : ∀ (S i : Nat) (r : Rl), (rollsTo S)[i]? = some r → 2 * (i : Int) = r.1 * (r.1 - 1) + 2 * (r.2 - 1)
  | 0, i, r, h => by simp [rollsTo] at h
  | S + 1, i, r, h => by
    rw [rollsTo] at h
    by_cases hi : i < (rollsTo S).length
    · rw [List.getElem?_append_left hi] at h
      exact rollsTo_num S i r h
    · rw [List.getElem?_append_right (by omega)] at h
      have hl := rollsTo_len2 S
      obtain ⟨j, hj⟩ : ∃ j, j = i - (rollsTo S).length := ⟨_, rfl⟩
      rw [← hj] at h
      simp only [List.getElem?_map, Option.map_eq_some_iff] at h
      obtain ⟨k, hk, rfl⟩ := h
      have hk2 := List.getElem?_eq_some_iff.1 hk
      obtain ⟨hk3, hk4⟩ := hk2
      simp at hk4
      dsimp only
      have e : ((S : Int) + 1) * ((S : Int) + 1 - 1) = ((S * (S + 1) : Nat) : Int) := by
        rw [Int.natCast_mul, Int.natCast_add, Int.mul_comm]
        congr 1
        omega
      rw [e, ← hl]
      omega
theorem rollsTo_has : ∀ (S : Nat) (a b : Int), 1 ≤ b → b ≤ a → a ≤ (S : Int) → (a, b) ∈ rollsTo S
  | 0, a, b, h1, h2, h3 => by omega
  | S + 1, a, b, h1, h2, h3 => by
    rw [rollsTo, List.mem_append]
    by_cases h : a ≤ (S : Int)
    · exact .inl (rollsTo_has S a b h1 h2 h)
    · refine .inr (List.mem_map.2 ⟨(b - 1).toNat, List.mem_range.2 (by omega), ?_⟩)
      rw [show a = (S : Int) + 1 by omega, show (((b - 1).toNat : Nat) : Int) + 1 = b by omega]
/-- The rolls of all pairs of faces in order. -/
def prsTo (S : Nat) : Nat → List Rl
  | 0 => []
  | a + 1 => prsTo S a ++ (List.range S).map fun (j : Nat) => prR ((a : Int) + 1) ((j : Int) + 1)
def prsRow (S a j : Nat) : List Rl := prsTo S a ++ (List.range j).map fun (j : Nat) => prR ((a : Int) + 1) ((j : Int) + 1)
theorem prsRow_succ (S a j : Nat) : prsRow S a (j + 1) = prsRow S a j ++ [prR ((a : Int) + 1) ((j : Int) + 1)] := by simp [prsRow, List.range_succ]
theorem prsRow_zero (S a : Nat) : prsRow S a 0 = prsTo S a := by simp [prsRow]
theorem prsRow_full (S a : Nat) : prsRow S a S = prsTo S (a + 1) := rfl
theorem prsTo_length (S : Nat) : ∀ a, (prsTo S a).length = a * S
  | 0 => by simp [prsTo]
  | a + 1 => by rw [prsTo, List.length_append, List.length_map, List.length_range, prsTo_length S a, Nat.add_mul]; omega
theorem prsRow_length (S a j : Nat) : (prsRow S a j).length = a * S + j := by
  rw [prsRow, List.length_append, List.length_map, List.length_range, prsTo_length]
def prs (S : Nat) : List Rl := prsTo S S
/-- The numbers of the pairs. -/
def nums (m : Nat) : List Int := (List.range m).map fun (k : Nat) => (k : Int)
def ofNum (S x : Int) : Rl := prR (1 + x / S) (1 + x % S)
theorem prs_nums (S : Nat) (h : S ≤ 6) : prs S = (nums (S * S)).map (ofNum S) := by
  have : S = 0 ∨ S = 1 ∨ S = 2 ∨ S = 3 ∨ S = 4 ∨ S = 5 ∨ S = 6 := by omega
  rcases this with rfl | rfl | rfl | rfl | rfl | rfl | rfl <;> decide
/-- Two elements of a list exchanged. -/
def swp {α : Type} (l : List α) (i k : Nat) : List α :=
  match l[i]?, l[k]? with
  | some x, some y => (l.set i y).set k x
  | _, _ => l
theorem swp_length {α : Type} (l : List α) (i k : Nat) : (swp l i k).length = l.length := by
  unfold swp
  split <;> simp
theorem swp_some {α : Type} {l : List α} {i k : Nat} {x y : α} (h1 : l[i]? = some x) (h2 : l[k]? = some y) : swp l i k = (l.set i y).set k x := by
  unfold swp
  rw [h1, h2]
theorem swp_map {α β : Type} (f : α → β) (l : List α) (i k : Nat) : swp (l.map f) i k = (swp l i k).map f := by
  unfold swp
  rw [List.getElem?_map, List.getElem?_map]
  cases l[i]? <;> cases l[k]? <;> simp [List.map_set]
theorem swp_mem {α : Type} (l : List α) (i k : Nat) (z : α) (h : z ∈ swp l i k) : z ∈ l := by
  unfold swp at h
  split at h
  · rename_i x y h1 h2
    rcases List.mem_or_eq_of_mem_set h with h | rfl
    · rcases List.mem_or_eq_of_mem_set h with h | rfl
      · exact h
      · exact List.mem_of_getElem? h2
    · exact List.mem_of_getElem? h1
  · exact h
theorem set_count {α : Type} [BEq α] [LawfulBEq α] : ∀ (l : List α) (i : Nat) (x y z : α), l[i]? = some x → (l.set i y).count z + (if x == z then 1 else 0) = l.count z + (if y == z then 1 else 0)
  | [], i, x, y, z, h => by simp at h
  | u :: l, 0, x, y, z, h => by
    simp at h
    subst h
    simp only [List.set_cons_zero, List.count_cons]
    omega
  | u :: l, i + 1, x, y, z, h => by
    have := set_count l i x y z (by simpa using h)
    simp only [List.set_cons_succ, List.count_cons]
    omega
theorem swp_count {α : Type} [BEq α] [LawfulBEq α] (l : List α) (i k : Nat) (z : α) : (swp l i k).count z = l.count z := by
  unfold swp
  split
  · rename_i x y h1 h2
    have e1 := set_count l i x y z h1
    by_cases hik : k = i
    · subst hik
      rw [h1] at h2
      cases h2
      have e2 := set_count (l.set k x) k x x z (by rw [List.getElem?_set_self (by have := (List.getElem?_eq_some_iff.1 h1).1; omega)])
      omega
    · have e2 := set_count (l.set i y) k y x z (by rw [List.getElem?_set_ne (fun e => hik e.symm)]; exact h2)
      omega
  · rfl
/-- A list shuffled from its place i down, and the seed with which that ends. -/
def shuf {α : Type} : Nat → List α → Int → List α × Int
  | 0, l, s => (l, s)
  | i + 1, l, s => shuf i (swp l (i + 1) (nxS s % ((i : Int) + 1 + 1)).toNat) (nxS s)
theorem shuf_length {α : Type} : ∀ (i : Nat) (l : List α) (s : Int), (shuf i l s).1.length = l.length
  | 0, l, s => rfl
  | i + 1, l, s => by rw [shuf, shuf_length i, swp_length]
theorem shuf_map {α β : Type} (f : α → β) : ∀ (i : Nat) (l : List α) (s : Int), shuf i (l.map f) s = ((shuf i l s).1.map f, (shuf i l s).2)
  | 0, l, s => rfl
  | i + 1, l, s => by rw [shuf, swp_map, shuf_map f i, shuf]
theorem shuf_mem {α : Type} : ∀ (i : Nat) (l : List α) (s : Int) (z : α), z ∈ (shuf i l s).1 → z ∈ l
  | 0, l, s, z, h => h
  | i + 1, l, s, z, h => by
    rw [shuf] at h
    exact swp_mem _ _ _ _ (shuf_mem i _ _ z h)
theorem shuf_count {α : Type} [BEq α] [LawfulBEq α] : ∀ (i : Nat) (l : List α) (s : Int) (z : α), (shuf i l s).1.count z = l.count z
  | 0, l, s, z => rfl
  | i + 1, l, s, z => by rw [shuf, shuf_count i, swp_count]
theorem shuf_seed {α : Type} : ∀ (i : Nat) (l : List α) (s : Int), 1 ≤ s ∧ s ≤ 2147483646 → 1 ≤ (shuf i l s).2 ∧ (shuf i l s).2 ≤ 2147483646
  | 0, l, s, h => h
  | i + 1, l, s, h => by rw [shuf]; exact shuf_seed i _ _ (nxS_seed h)
/-- One group of stratified rolls. -/
def grpL (S : Nat) (s : Int) : List Rl := (shuf (S * S - 1) (prs S) s).1
def grpS (S : Nat) (s : Int) : Int := (shuf (S * S - 1) (prs S) s).2
theorem grpL_length (S : Nat) (s : Int) : (grpL S s).length = S * S := by rw [grpL, shuf_length, prs, prsTo_length]
theorem grpS_seed (S : Nat) (s : Int) (h : 1 ≤ s ∧ s ≤ 2147483646) : 1 ≤ grpS S s ∧ grpS S s ≤ 2147483646 := shuf_seed _ _ _ h
/-- The model's group: of numbers, turned into rolls behind the shuffle. -/
theorem grp_nums (S : Nat) (h : S ≤ 6) (s : Int) : grpL S s = (shuf (S * S - 1) (nums (S * S)) s).1.map (ofNum S) ∧ grpS S s = (shuf (S * S - 1) (nums (S * S)) s).2 := by
  unfold grpL grpS
  rw [prs_nums S h, shuf_map]
  exact ⟨rfl, rfl⟩
/-- The seed behind some groups, and their rolls. -/
def strS (S : Nat) (s : Int) : Nat → Int
  | 0 => s
  | g + 1 => grpS S (strS S s g)
def strL (S : Nat) (s : Int) : Nat → List Rl
  | 0 => []
  | g + 1 => strL S s g ++ grpL S (strS S s g)
theorem strS_seed (S : Nat) (s : Int) (h : 1 ≤ s ∧ s ≤ 2147483646) : ∀ g, 1 ≤ strS S s g ∧ strS S s g ≤ 2147483646
  | 0 => h
  | g + 1 => grpS_seed S _ (strS_seed S s h g)
theorem strL_length (S : Nat) (s : Int) : ∀ g, (strL S s g).length = g * (S * S)
  | 0 => by simp [strL]
  | g + 1 => by rw [strL, List.length_append, grpL_length, strL_length S s g, Nat.add_mul, Nat.one_mul]
theorem strL_more (S : Nat) (s : Int) (g : Nat) : ∀ k, ∃ t, strL S s (g + k) = strL S s g ++ t
  | 0 => ⟨[], by simp⟩
  | k + 1 => by
    obtain ⟨t, ht⟩ := strL_more S s g k
    exact ⟨t ++ grpL S (strS S s (g + k)), by rw [← Nat.add_assoc, strL, ht, List.append_assoc]⟩
/-- The first n stratified rolls. -/
def strN (S : Nat) (s : Int) (n : Nat) : List Rl := (strL S s n).take n
theorem strN_of (S : Nat) (s : Int) (n g : Nat) (hS : 1 ≤ S) (h : n ≤ (strL S s g).length) : (strL S s g).take n = strN S s n := by
  have hn : n ≤ (strL S s n).length := by
    rw [strL_length]
    exact Nat.le_mul_of_pos_right n (Nat.mul_pos hS hS)
  unfold strN
  rcases Nat.le_total g n with hg | hg
  · obtain ⟨t, ht⟩ := strL_more S s g (n - g)
    rw [show g + (n - g) = n by omega] at ht
    rw [ht, List.take_append_of_le_length h]
  · obtain ⟨t, ht⟩ := strL_more S s n (g - n)
    rw [show n + (g - n) = g by omega] at ht
    rw [ht, List.take_append_of_le_length hn]
theorem strN_length (S : Nat) (s : Int) (n : Nat) (hS : 1 ≤ S) : (strN S s n).length = n := by
  unfold strN
  rw [List.length_take, strL_length, Nat.min_eq_left]
  exact Nat.le_mul_of_pos_right n (Nat.mul_pos hS hS)
/-- The first group is the first rolls. -/
theorem strN_group (S : Nat) (s : Int) (hS : 1 ≤ S) : strN S s (S * S) = grpL S s := by
  have h := strN_of S s (S * S) 1 hS (by rw [strL_length]; omega)
  rw [← h]
  simp [strL, strS]
  exact List.take_of_length_le (Nat.le_of_eq (grpL_length S s))
/-- Fewer rolls are a beginning of more. -/
theorem strN_at (S : Nat) (s : Int) (m n i : Nat) (hS : 1 ≤ S) (h1 : i < m) (h2 : i < n) : (strN S s m)[i]? = (strN S s n)[i]? := by
  have hm : (strL S s (m + n)).length = (m + n) * (S * S) := strL_length S s (m + n)
  have hle : m + n ≤ (m + n) * (S * S) := Nat.le_mul_of_pos_right _ (Nat.mul_pos hS hS)
  rw [← strN_of S s m (m + n) hS (by omega), ← strN_of S s n (m + n) hS (by omega), List.getElem?_take_of_lt h1, List.getElem?_take_of_lt h2]
/-- The weight of a roll. -/
def wgR (r : Rl) : Int := if r.1 = r.2 then 1 else 2
/-- A group has each roll as often as its weight. -/
theorem prs_count (S : Nat) (h : S ≤ 6) : ∀ r, r ∈ rollsTo S → ((prs S).count r : Int) = wgR r := by
  have : S = 0 ∨ S = 1 ∨ S = 2 ∨ S = 3 ∨ S = 4 ∨ S = 5 ∨ S = 6 := by omega
  rcases this with rfl | rfl | rfl | rfl | rfl | rfl | rfl <;> decide
theorem grp_count (S : Nat) (h : S ≤ 6) (s : Int) (r : Rl) (hr : r ∈ rollsTo S) : ((grpL S s).count r : Int) = wgR r := by
  rw [grpL, shuf_count]
  exact prs_count S h r hr
/-- The weights of the first rolls. -/
def wgTo (l : List Rl) (k : Nat) : Int := ((l.take k).map wgR).sum
theorem wgTo_zero (l : List Rl) : wgTo l 0 = 0 := by simp [wgTo]
theorem wgTo_succ (l : List Rl) (k : Nat) (r : Rl) (h : l[k]? = some r) : wgTo l (k + 1) = wgTo l k + wgR r := by
  unfold wgTo
  obtain ⟨hk, rfl⟩ := List.getElem?_eq_some_iff.1 h
  rw [List.take_succ_eq_append_getElem hk, List.map_append, List.sum_append]
  simp
theorem wgTo_bound (l : List Rl) : ∀ k : Nat, 0 ≤ wgTo l k ∧ wgTo l k ≤ 2 * (k : Int)
  | 0 => by simp [wgTo]
  | k + 1 => by
    have := wgTo_bound l k
    by_cases h : k < l.length
    · rw [wgTo_succ l k _ (List.getElem?_eq_getElem h)]
      unfold wgR
      split <;> omega
    · have e : wgTo l (k + 1) = wgTo l k := by
        unfold wgTo
        rw [List.take_of_length_le (by omega), List.take_of_length_le (by omega)]
      omega
theorem wgTo_all (S : Nat) (h : S ≤ 6) : wgTo (rollsTo S) (rollsTo S).length = (S : Int) * S := by
  have : S = 0 ∨ S = 1 ∨ S = 2 ∨ S = 3 ∨ S = 4 ∨ S = 5 ∨ S = 6 := by omega
  rcases this with rfl | rfl | rfl | rfl | rfl | rfl | rfl <;> decide
/-- The seed behind some rolls, and the rolls. -/
def sdN (s : Int) : Nat → Int
  | 0 => s
  | k + 1 => nxS (nxS (sdN s k))
theorem sdN_seed (s : Int) (h : 1 ≤ s ∧ s ≤ 2147483646) : ∀ k, 1 ≤ sdN s k ∧ sdN s k ≤ 2147483646
  | 0 => h
  | k + 1 => nxS_seed (nxS_seed (sdN_seed s h k))
/-- The roll from a seed. -/
def frR (S s : Int) : Rl := prR (1 + nxS s % S) (1 + nxS (nxS s) % S)
def frN (S s : Int) (n : Nat) : List Rl := (List.range n).map fun k => frR S (sdN s k)
theorem frN_length (S s : Int) (n : Nat) : (frN S s n).length = n := by simp [frN]
theorem frN_succ (S s : Int) (n : Nat) : frN S s (n + 1) = frN S s n ++ [frR S (sdN s n)] := by simp [frN, List.range_succ]
theorem frN_at (S s : Int) (n k : Nat) (h : k < n) : (frN S s n)[k]? = some (frR S (sdN s k)) := by simp [frN, h]
end Go.Proofs.Ytjepbhainidpgaa
