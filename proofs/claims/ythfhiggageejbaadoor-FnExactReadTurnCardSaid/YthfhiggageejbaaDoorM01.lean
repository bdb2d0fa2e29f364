/- Plain mathematics of the texts of variants: the scan of the program, the split and the values of its model, and that both read exactly the texts of valid variants. -/
import Derived.Test.YthfhiggageejbaaDoorL01t
namespace Go.Proofs.YthfhiggageejbaaDoor
set_option linter.unusedVariables false
set_option linter.unusedSimpArgs false

/-! ### the program's scan -/
def scanL : List UInt8 → Nat → List Int → List Int
  | [], _, fs => fs
  | b :: r, c, fs =>
    if b.toNat = 47 ∧ c < 3 then scanL r (c + 1) fs
    else if 48 ≤ b.toNat ∧ b.toNat ≤ 57 ∧ fs.getD c 0 ≤ 24 then scanL r c (fs.set c (10 * fs.getD c 0 + (b.toNat - 48 : Int)))
    else fs

theorem toNat_digit {d : Nat} (h : d < 10) : (UInt8.ofNat (48 + d)).toNat = 48 + d := by
  simp [UInt8.toNat_ofNat]; omega

theorem scan_digit (d : Nat) (h : d < 10) (r : List UInt8) (c : Nat) (fs : List Int) (hf : fs.getD c 0 ≤ 24) :
    scanL (UInt8.ofNat (48 + d) :: r) c fs = scanL r c (fs.set c (10 * fs.getD c 0 + d)) := by
  have e := toNat_digit h
  rw [scanL, if_neg (by omega), if_pos (by omega), e]
  congr 2
  omega

theorem num2_one {n : Int} (h0 : 0 ≤ n) (h : n < 10) : num2 n = [UInt8.ofNat (48 + n.toNat)] := by
  rw [num2_lt h]
  congr 2
  omega
theorem num2_two {n : Int} (h : 10 ≤ n) : num2 n = [UInt8.ofNat (48 + (n / 10).toNat), UInt8.ofNat (48 + (n % 10).toNat)] := by
  rw [num2_ge h]
  have e1 : (48 + n / 10).toNat = 48 + (n / 10).toNat := by omega
  have e2 : (48 + n % 10).toNat = 48 + (n % 10).toNat := by omega
  rw [e1, e2]

theorem getD_set_self (fs : List Int) (c : Nat) (x : Int) (h : c < fs.length) : (fs.set c x).getD c 0 = x := by
  simp [List.getD, h]
theorem scan_num (n : Int) (h0 : 0 ≤ n) (h1 : n < 100) (r : List UInt8) (c : Nat) (fs : List Int) (hc : c < fs.length) (hf : fs.getD c 0 = 0) :
    scanL (num2 n ++ r) c fs = scanL r c (fs.set c n) := by
  by_cases h : n < 10
  · rw [num2_one h0 h]
    show scanL (UInt8.ofNat (48 + n.toNat) :: r) c fs = _
    rw [scan_digit _ (by omega) _ _ _ (by omega), hf]
    congr 2
    omega
  · rw [num2_two (by omega)]
    show scanL (UInt8.ofNat (48 + (n / 10).toNat) :: UInt8.ofNat (48 + (n % 10).toNat) :: r) c fs = _
    rw [scan_digit _ (by omega) _ _ _ (by omega), scan_digit _ (by omega) _ _ _ (by rw [getD_set_self _ _ _ hc]; omega), getD_set_self _ _ _ hc, List.set_set, hf]
    congr 2
    omega
theorem scan_slash (r : List UInt8) (c : Nat) (fs : List Int) (h : c < 3) : scanL (47 :: r) c fs = scanL r (c + 1) fs := by
  rw [scanL, if_pos ⟨by decide, h⟩]
theorem scan_vtext {p c h s : Int} (g : vB p c h s = true) : scanL (vtext p c h s) 0 [0, 0, 0, 0] = [p, c, h, s] := by
  have hv := vB_iff.1 g
  unfold vtext
  simp only [List.append_assoc]
  rw [scan_num p (by omega) (by omega) _ _ _ (by simp) (by rfl)]
  show scanL (47 :: (num2 c ++ ([47] ++ (num2 h ++ ([47] ++ num2 s))))) 0 [p, 0, 0, 0] = _
  rw [scan_slash _ _ _ (by omega), scan_num c (by omega) (by omega) _ _ _ (by simp) (by rfl)]
  show scanL (47 :: (num2 h ++ ([47] ++ num2 s))) 1 [p, c, 0, 0] = _
  rw [scan_slash _ _ _ (by omega), scan_num h (by omega) (by omega) _ _ _ (by simp) (by rfl)]
  show scanL (47 :: num2 s) 2 [p, c, h, 0] = _
  rw [scan_slash _ _ _ (by omega)]
  have := scan_num s (by omega) (by omega) [] 3 [p, c, h, 0] (by simp) (by rfl)
  rw [List.append_nil] at this
  rw [this]
  rfl

/-! ### the model's split -/
def prep (p : List UInt8) : List (List UInt8) → List (List UInt8)
  | [] => [p]
  | h :: t => (p ++ h) :: t
def splitL (y : Nat) : List UInt8 → List (List UInt8)
  | [] => [[]]
  | b :: r => if b.toNat = y then [] :: splitL y r else prep [b] (splitL y r)
theorem splitL_ne (y : Nat) (l : List UInt8) : splitL y l ≠ [] := by
  cases l with
  | nil => simp [splitL]
  | cons b r =>
    rw [splitL]
    split
    · simp
    · cases splitL y r <;> simp [prep]
theorem prep_nil {l : List (List UInt8)} (h : l ≠ []) : prep [] l = l := by cases l <;> simp_all [prep]
theorem prep_prep (a b : List UInt8) (l : List (List UInt8)) : prep a (prep b l) = prep (a ++ b) l := by cases l <;> simp [prep]
theorem split_plain (y : Nat) : ∀ (a r : List UInt8), (∀ b ∈ a, b.toNat ≠ y) → splitL y (a ++ r) = prep a (splitL y r)
  | [], r, _ => by rw [prep_nil (splitL_ne y r)]; rfl
  | b :: a, r, h => by
    rw [List.cons_append, splitL, if_neg (h b (by simp)), split_plain y a r (fun x hx => h x (by simp [hx])), prep_prep]
    rfl
theorem split_word (y : Nat) (a r : List UInt8) (b : UInt8) (h : ∀ b ∈ a, b.toNat ≠ y) (hb : b.toNat = y) : splitL y (a ++ b :: r) = a :: splitL y r := by
  rw [split_plain y a _ h, splitL, if_pos hb]
  simp [prep]
theorem split_last (y : Nat) (a : List UInt8) (h : ∀ b ∈ a, b.toNat ≠ y) : splitL y a = [a] := by
  have := split_plain y a [] h
  rw [List.append_nil] at this
  rw [this, splitL]
  simp [prep]
theorem split_length (y : Nat) : ∀ l : List UInt8, (splitL y l).length ≤ l.length + 1
  | [] => by simp [splitL]
  | b :: r => by
    have := split_length y r
    rw [splitL]
    split
    · simp; omega
    · cases h : splitL y r with
      | nil => simp [prep]
      | cons x t => rw [h] at this; simp [prep] at this ⊢; omega

/-! ### the model's values of words -/
def isDig (b : UInt8) : Bool := decide (48 ≤ b.toNat ∧ b.toNat ≤ 57)
def digs (l : List UInt8) : Int := l.foldl (fun n b => 10 * n + (b.toNat - 48 : Int)) 0
def valL (l : List UInt8) : Int × Bool :=
  if l.length = 0 ∨ 15 < l.length ∨ (1 < l.length ∧ (l.getD 0 0).toNat = 48) then (0, false)
  else if l.all isDig then (digs l, true) else (0, false)
theorem digs_snoc (l : List UInt8) (b : UInt8) : digs (l ++ [b]) = 10 * digs l + (b.toNat - 48 : Int) := by simp [digs]
theorem isDig_digit {d : Nat} (h : d < 10) : isDig (UInt8.ofNat (48 + d)) = true := by
  unfold isDig
  rw [toNat_digit h]
  simp; omega
theorem val_num (n : Int) (h0 : 0 ≤ n) (h1 : n < 100) : valL (num2 n) = (n, true) := by
  by_cases h : n < 10
  · have hd := isDig_digit (d := n.toNat) (by omega)
    have ht := toNat_digit (d := n.toNat) (by omega)
    rw [num2_one h0 h, valL, if_neg (by simp), if_pos (by simp only [List.all_cons, List.all_nil, hd, Bool.and_true])]
    simp only [digs, List.foldl_cons, List.foldl_nil, ht, Prod.mk.injEq, and_true]
    omega
  · have hd := isDig_digit (d := (n / 10).toNat) (by omega)
    have ht := toNat_digit (d := (n / 10).toNat) (by omega)
    have hd2 := isDig_digit (d := (n % 10).toNat) (by omega)
    have ht2 := toNat_digit (d := (n % 10).toNat) (by omega)
    rw [num2_two (by omega), valL, if_neg (by simp [ht]; omega), if_pos (by simp only [List.all_cons, List.all_nil, hd, hd2, Bool.and_true])]
    simp only [digs, List.foldl_cons, List.foldl_nil, ht, ht2, Prod.mk.injEq, and_true]
    omega
theorem num2_plain (n : Int) (h0 : 0 ≤ n) (h1 : n < 100) : ∀ b ∈ num2 n, b.toNat ≠ 47 := by
  intro b hb
  by_cases h : n < 10
  · rw [num2_one h0 h] at hb
    simp only [List.mem_cons, List.not_mem_nil, or_false] at hb
    subst hb
    rw [toNat_digit (by omega)]; omega
  · rw [num2_two (by omega)] at hb
    simp only [List.mem_cons, List.not_mem_nil, or_false] at hb
    rcases hb with rfl | rfl
    · rw [toNat_digit (by omega)]; omega
    · rw [toNat_digit (by omega)]; omega
theorem split_vtext {p c h s : Int} (g : vB p c h s = true) : splitL 47 (vtext p c h s) = [num2 p, num2 c, num2 h, num2 s] := by
  have hv := vB_iff.1 g
  unfold vtext
  simp only [List.append_assoc]
  show splitL 47 (num2 p ++ 47 :: (num2 c ++ 47 :: (num2 h ++ 47 :: num2 s))) = _
  rw [split_word _ _ _ _ (num2_plain p (by omega) (by omega)) rfl, split_word _ _ _ _ (num2_plain c (by omega) (by omega)) rfl, split_word _ _ _ _ (num2_plain h (by omega) (by omega)) rfl, split_last _ _ (num2_plain s (by omega) (by omega))]

/-! ### both readers -/
/-- What the program reads: the scanned variant, where it is valid and has this text. -/
def rvI (t : List UInt8) : Option (Int × Int × Int × Int) :=
  let f := scanL t 0 [0, 0, 0, 0]
  let v := (f.getD 0 0, f.getD 1 0, f.getD 2 0, f.getD 3 0)
  if vB v.1 v.2.1 v.2.2.1 v.2.2.2 = true ∧ vtext v.1 v.2.1 v.2.2.1 v.2.2.2 = t then some v else none
/-- What the model reads. -/
def rvS (t : List UInt8) : Option (Int × Int × Int × Int) :=
  let f := splitL 47 t
  let v := ((valL (f.getD 0 [])).1, (valL (f.getD 1 [])).1, (valL (f.getD 2 [])).1, (valL (f.getD 3 [])).1)
  if f.length = 4 ∧ vt v.1 v.2.1 v.2.2.1 v.2.2.2 = t then some v else none
theorem rvI_iff (t : List UInt8) (p c h s : Int) : rvI t = some (p, c, h, s) ↔ vB p c h s = true ∧ vtext p c h s = t := by
  unfold rvI
  constructor
  · intro k
    simp only at k
    split at k
    · rename_i q
      simp only [Option.some.injEq, Prod.mk.injEq] at k
      obtain ⟨rfl, rfl, rfl, rfl⟩ := k
      exact q
    · cases k
  · rintro ⟨g, rfl⟩
    have e := scan_vtext g
    simp only [e]
    show (if vB p c h s = true ∧ vtext p c h s = vtext p c h s then some (p, c, h, s) else none) = _
    rw [if_pos ⟨g, rfl⟩]
theorem rvS_iff (t : List UInt8) (p c h s : Int) : rvS t = some (p, c, h, s) ↔ vB p c h s = true ∧ vtext p c h s = t := by
  unfold rvS
  constructor
  · intro k
    simp only at k
    split at k
    · rename_i q
      simp only [Option.some.injEq, Prod.mk.injEq] at k
      obtain ⟨rfl, rfl, rfl, rfl⟩ := k
      obtain ⟨q1, q2⟩ := q
      have ht : t ≠ [] := by
        rintro rfl
        simp [splitL] at q1
      generalize (valL ((splitL 47 t).getD 0 [])).1 = p at *
      generalize (valL ((splitL 47 t).getD 1 [])).1 = c at *
      generalize (valL ((splitL 47 t).getD 2 [])).1 = h at *
      generalize (valL ((splitL 47 t).getD 3 [])).1 = s at *
      by_cases g : vB p c h s = true
      · simp only [vt, if_pos g] at q2
        exact ⟨g, q2⟩
      · simp only [vt, if_neg g] at q2
        exact absurd q2.symm ht
    · cases k
  · rintro ⟨g, rfl⟩
    have hv := vB_iff.1 g
    have e := split_vtext g
    simp only [e]
    have e1 := val_num p (by omega) (by omega)
    have e2 := val_num c (by omega) (by omega)
    have e3 := val_num h (by omega) (by omega)
    have e4 := val_num s (by omega) (by omega)
    show (if ([num2 p, num2 c, num2 h, num2 s] : List (List UInt8)).length = 4 ∧ vt (valL (num2 p)).1 (valL (num2 c)).1 (valL (num2 h)).1 (valL (num2 s)).1 = vtext p c h s then some ((valL (num2 p)).1, (valL (num2 c)).1, (valL (num2 h)).1, (valL (num2 s)).1) else none) = _
    rw [e1, e2, e3, e4]
    rw [if_pos ⟨rfl, by simp [vt, g]⟩]
theorem rv_eq (t : List UInt8) : rvI t = rvS t := by
  cases k : rvI t with
  | some v =>
    obtain ⟨p, c, h, s⟩ := v
    exact ((rvS_iff t p c h s).2 ((rvI_iff t p c h s).1 k)).symm
  | none =>
    cases k2 : rvS t with
    | none => rfl
    | some v =>
      obtain ⟨p, c, h, s⟩ := v
      have := (rvI_iff t p c h s).2 ((rvS_iff t p c h s).1 k2)
      rw [k] at this
      cases this
end Go.Proofs.YthfhiggageejbaaDoor
