/- Contracts of chapter 10: the text of a position, of the program and of its model. -/
import Derived.Test.YtenbihglmblalaaDoor10a
import Derived.Test.YtenbihglmblalaaDoorDec
import Derived.Test.YtenbihglmblalaaDoorShelf
import Derived.Lib.Join
namespace Go.Proofs.YtenbihglmblalaaDoor
open Go.ChangeShapes Go.WideShapes Go.ChangeAt Go.RowKit
set_option linter.unusedVariables false
set_option linter.unusedSimpArgs false
set_option maxRecDepth 4000

/-- The texts of the elements, joined. -/
def elT (xs : List Int) : List (List UInt8) := xs.map Lib.itoa
def btL (xs : List Int) : List UInt8 := Lib.join (elT xs) [44]
def btT (p c h s : Int) (xs : List Int) : List UInt8 := if okP p c h s xs = true then btL xs else []
theorem elT_length (xs : List Int) : (elT xs).length = xs.length := by simp [elT]
theorem elT_get (xs : List Int) (k : Nat) (h : k < xs.length) : (elT xs)[k]? = some (Lib.itoa (xs.getD k 0)) := by simp [elT, h]
theorem itoa_small {x : Int} (h0 : 0 ≤ x) (h1 : x < 100) : (Lib.itoa x).length ≤ 2 := by
  rw [Lib.itoa, if_neg (by omega)]
  exact dec_length 2 x.toNat (by omega) (by omega)
theorem join_short : ∀ (l : List (List UInt8)), (∀ t ∈ l, t.length ≤ 2) → (Lib.join l [44]).length ≤ 3 * l.length
  | [], _ => by simp [Lib.join_nil]
  | x :: r, h => by
    have hl : ∀ (r : List (List UInt8)), (∀ t ∈ r, t.length ≤ 2) → (Lib.joinTail [44] r).length ≤ 3 * r.length := by
      intro r
      induction r with
      | nil => intro _; simp [Lib.joinTail]
      | cons y r ih =>
        intro h
        have h1 := h y (by simp)
        have h2 := ih (fun t ht => h t (by simp [ht]))
        simp only [Lib.joinTail, List.map_cons, List.flatten_cons, List.length_append, List.length_cons, List.length_nil] at h2 ⊢
        omega
    rw [Lib.join_cons, List.length_append]
    have h1 := h x (by simp)
    have h2 := hl r (fun t ht => h t (by simp [ht]))
    simp only [List.length_cons]
    omega
theorem join_more (l : List (List UInt8)) (k : Nat) (y : List UInt8) (h : l[k]? = some y) (hk : 0 < k) : Lib.join (l.take (k + 1)) [44] = Lib.join (l.take k) [44] ++ [44] ++ y := by
  cases l with
  | nil => simp at h
  | cons x r =>
    obtain ⟨j, rfl⟩ : ∃ j, k = j + 1 := ⟨k - 1, by omega⟩
    rw [List.take_succ_cons, List.take_succ_cons, Lib.join_cons, Lib.join_cons, Lib.joinTail_take_succ [44] r j y (by simpa using h)]
    simp
theorem join_first (l : List (List UInt8)) (y : List UInt8) (h : l[0]? = some y) : Lib.join (l.take 1) [44] = y := by
  cases l with
  | nil => simp at h
  | cons x r =>
    simp at h
    subst h
    simp [Lib.join_one]
theorem elT_short (xs : List Int) (hx : ∀ x ∈ xs, 0 ≤ x ∧ x ≤ 15) : ∀ t ∈ elT xs, t.length ≤ 2 := fun t ht => by
  obtain ⟨x, hm, rfl⟩ := List.mem_map.1 ht
  have := hx x hm
  exact itoa_small (by omega) (by omega)
theorem btL_short (xs : List Int) (hx : ∀ x ∈ xs, 0 ≤ x ∧ x ≤ 15) (k : Nat) (hk : xs.length ≤ 24) : (Lib.join ((elT xs).take k) [44]).length ≤ 72 := by
  have h := join_short ((elT xs).take k) (fun t ht => elT_short xs hx t (List.mem_of_mem_take ht))
  rw [List.length_take, elT_length] at h
  omega
theorem fmt_itoa (x : Int) (h0 : 0 ≤ x) (h1 : x < 100) (w : World) :
    Calls Tryd.prog 36 #[.int .i64 x, .int .i64 10] w fun e w' => e = .returned (.string ⟨(Lib.itoa x).toArray⟩) ∧ w = w' := by
  obtain ⟨k, rfl⟩ := Int.eq_ofNat_of_zero_le h0
  refine (Tryd.strconv_FormatInt_10_small k (by omega) w).mono ?_
  rintro e w' ⟨rfl, rfl⟩
  exact ⟨by rw [Lib.itoa, if_neg (by omega)]; rfl, rfl⟩
theorem infoSt0 : (Tryd.prog.info? 9).map (fun i => (i.zero, i.size, i.bytes)) = some (some (.string ⟨#[]⟩), 1, 16) := by kernel_rfl
/-- Texts as values. -/
def strV (l : List (List UInt8)) : List Value := l.map fun t => Value.string ⟨t.toArray⟩
theorem strV_set (l : List (List UInt8)) (n k : Nat) (y : List UInt8) (hl : l[k]? = some y) (hk : k < n) : (strV (l.take k) ++ List.replicate (n - k) (Value.string ⟨#[]⟩)).set k (.string ⟨y.toArray⟩) = strV (l.take (k + 1)) ++ List.replicate (n - (k + 1)) (Value.string ⟨#[]⟩) := by
  have hlk : k < l.length := (List.getElem?_eq_some_iff.1 hl).1
  have h1 : (strV (l.take k)).length = k := by simp [strV]; omega
  rw [List.set_append, if_neg (by omega), h1, Nat.sub_self, show n - k = (n - (k + 1)) + 1 by omega, List.replicate_succ, List.set_cons_zero, List.take_succ_eq_append_getElem hlk]
  have : l[k] = y := (List.getElem?_eq_some_iff.1 hl).2
  simp [strV, this]
end Go.Proofs.YtenbihglmblalaaDoor
