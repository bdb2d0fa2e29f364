/- Plain mathematics of the texts of steps: the text of a plain step, what the model and the program guess from a text, and that both read exactly the texts of plain steps. -/
import Derived.Test.YthfhiggageejbaaDoorM01
import Derived.Lib.IndexMore
import Derived.Lib.AtoiTie
import Derived.Lib.Strings
namespace Go.Proofs.YthfhiggageejbaaDoor
set_option linter.unusedVariables false
set_option linter.unusedSimpArgs false

/-- A plain step. -/
def plB (p s f t d : Int) (h : Bool) : Bool :=
  decide (0 ≤ f) && decide (f ≤ p) && decide (1 ≤ d) && decide (d ≤ s) && (if t = -1 then !h && decide (f < p) && decide (f < d) else decide (0 ≤ t) && decide (t = f - d))
theorem plB_iff {p s f t d : Int} {h : Bool} : plB p s f t d h = true ↔ 0 ≤ f ∧ f ≤ p ∧ 1 ≤ d ∧ d ≤ s ∧ ((t = -1 ∧ h = false ∧ f < p ∧ f < d) ∨ (0 ≤ t ∧ t = f - d)) := by
  unfold plB
  by_cases ht : t = -1
  · rw [if_pos ht]
    simp only [Bool.and_eq_true, decide_eq_true_eq, Bool.not_eq_true']
    constructor
    · rintro ⟨⟨⟨⟨a, b⟩, c⟩, e⟩, ⟨g, i⟩, j⟩; exact ⟨a, b, c, e, .inl ⟨ht, g, i, j⟩⟩
    · rintro ⟨a, b, c, e, ⟨_, g, i, j⟩ | ⟨g, _⟩⟩
      · exact ⟨⟨⟨⟨a, b⟩, c⟩, e⟩, ⟨g, i⟩, j⟩
      · omega
  · rw [if_neg ht]
    simp only [Bool.and_eq_true, decide_eq_true_eq]
    constructor
    · rintro ⟨⟨⟨⟨a, b⟩, c⟩, e⟩, g, i⟩; exact ⟨a, b, c, e, .inr ⟨g, i⟩⟩
    · rintro ⟨a, b, c, e, ⟨g, _⟩ | ⟨g, i⟩⟩
      · omega
      · exact ⟨⟨⟨⟨a, b⟩, c⟩, e⟩, g, i⟩
abbrev barL : List UInt8 := [98, 97, 114]
abbrev offL : List UInt8 := [111, 102, 102]
/-- The text of a place. -/
def plT (p i : Int) : List UInt8 := if i = p then barL else if i = -1 then offL else num2 (i + 1)
/-- What stands behind the places. -/
def mrT (f t d : Int) (h : Bool) : List UInt8 := if h = true then [42] else if t = -1 ∧ d ≠ f + 1 then 40 :: (num2 d ++ [41]) else []
/-- The text of a plain step. -/
def stT (p f t d : Int) (h : Bool) : List UInt8 := plT p f ++ 47 :: (plT p t ++ mrT f t d h)

/-! ### the model's guess -/
def gEnd (f : Int) (e : List UInt8) : Int × Int × Bool :=
  if 3 ≤ e.length ∧ e.take 3 = offL then (-1, if 5 < e.length then (valL ((e.take (e.length - 1)).drop 4)).1 else f + 1, false)
  else if 0 < e.length ∧ (e.getD (e.length - 1) 0).toNat = 42 then ((valL (e.take (e.length - 1))).1 - 1, f - ((valL (e.take (e.length - 1))).1 - 1), true)
  else ((valL e).1 - 1, f - ((valL e).1 - 1), false)
def gFrom (p : Int) (a : List UInt8) : Int := if a = barL then p else (valL a).1 - 1
def guess (p : Int) (l : List UInt8) : Int × Int × Int × Bool :=
  if (splitL 47 l).length = 2 then (gFrom p ((splitL 47 l).getD 0 []), gEnd (gFrom p ((splitL 47 l).getD 0 [])) ((splitL 47 l).getD 1 [])) else (0, 0, 0, false)
/-- What is read from a text. -/
def rd (p s : Int) (l : List UInt8) : Option (Int × Int × Int × Bool) :=
  if plB p s (guess p l).1 (guess p l).2.1 (guess p l).2.2.1 (guess p l).2.2.2 = true ∧ stT p (guess p l).1 (guess p l).2.1 (guess p l).2.2.1 (guess p l).2.2.2 = l then some (guess p l) else none

theorem fin_of {n : Int} {m : Nat} (h0 : 0 ≤ n) (h1 : n < m) : ∃ k : Fin m, n = (k.val : Int) := ⟨⟨n.toNat, by omega⟩, by simp; omega⟩
theorem num_end : ∀ k : Fin 26, ¬ (3 ≤ (num2 (k.val : Int)).length ∧ (num2 (k.val : Int)).take 3 = offL) ∧ ¬ (0 < (num2 (k.val : Int)).length ∧ ((num2 (k.val : Int)).getD ((num2 (k.val : Int)).length - 1) 0).toNat = 42) := by decide +kernel
theorem star_end : ∀ k : Fin 26, ¬ (3 ≤ (num2 (k.val : Int) ++ [42]).length ∧ (num2 (k.val : Int) ++ [42]).take 3 = offL) ∧ (0 < (num2 (k.val : Int) ++ [42]).length ∧ ((num2 (k.val : Int) ++ [42]).getD ((num2 (k.val : Int) ++ [42]).length - 1) 0).toNat = 42) ∧
    (num2 (k.val : Int) ++ [42]).take ((num2 (k.val : Int) ++ [42]).length - 1) = num2 (k.val : Int) := by decide +kernel
theorem die_end : ∀ k : Fin 10, 5 < (offL ++ 40 :: (num2 (k.val : Int) ++ [41])).length ∧ (((offL ++ 40 :: (num2 (k.val : Int) ++ [41])).take ((offL ++ 40 :: (num2 (k.val : Int) ++ [41])).length - 1)).drop 4) = num2 (k.val : Int) := by decide +kernel
theorem num_ne : ∀ k : Fin 26, num2 (k.val : Int) ≠ barL ∧ num2 (k.val : Int) ≠ offL := by decide +kernel

theorem plT_plain {p i : Int} (h : i = p ∨ i = -1 ∨ (0 ≤ i ∧ i < p)) (hp : p ≤ 24) : ∀ b ∈ plT p i, b.toNat ≠ 47 := by
  unfold plT
  split
  · decide
  · split
    · decide
    · exact num2_plain _ (by omega) (by omega)
theorem mrT_plain {f t d : Int} {h : Bool} (h0 : 0 ≤ d) (h1 : d < 100) : ∀ b ∈ mrT f t d h, b.toNat ≠ 47 := by
  unfold mrT
  split
  · decide
  · split
    · intro b hb
      simp only [List.mem_cons, List.mem_append, List.not_mem_nil, or_false] at hb
      rcases hb with rfl | hb | rfl
      · decide
      · exact num2_plain _ h0 h1 b hb
      · decide
    · simp
theorem plB_facts {p s f t d : Int} {h : Bool} (hp : p ≤ 24) (hs : s ≤ 6) (g : plB p s f t d h = true) :
    (f = p ∨ f = -1 ∨ (0 ≤ f ∧ f < p)) ∧ (t = p ∨ t = -1 ∨ (0 ≤ t ∧ t < p)) ∧ 0 ≤ d ∧ d < 10 := by
  have := plB_iff.1 g
  omega
theorem plT_bar (p : Int) : plT p p = barL := if_pos rfl
theorem plT_num {p i : Int} (h : 0 ≤ i ∧ i < p) : plT p i = num2 (i + 1) := by
  unfold plT
  rw [if_neg (by omega), if_neg (by omega)]
theorem gFrom_good {p f : Int} (h : f = p ∨ (0 ≤ f ∧ f < p)) (hp : p ≤ 24) : gFrom p (plT p f) = f := by
  unfold gFrom
  by_cases e : f = p
  · rw [e, plT_bar, if_pos rfl]
  · rw [plT_num (by omega)]
    obtain ⟨k, hk⟩ := fin_of (n := f + 1) (m := 26) (by omega) (by omega)
    rw [hk, if_neg (num_ne k).1, val_num _ (by omega) (by omega)]
    show (k.val : Int) - 1 = f
    omega
theorem guess_good {p s f t d : Int} {h : Bool} (hp : p ≤ 24) (hs : s ≤ 6) (g : plB p s f t d h = true) : guess p (stT p f t d h) = (f, t, d, h) := by
  have q := plB_iff.1 g
  obtain ⟨q1, q2, q3, q4⟩ := plB_facts hp hs g
  have e : splitL 47 (stT p f t d h) = [plT p f, plT p t ++ mrT f t d h] := by
    unfold stT
    rw [split_word _ _ _ _ (plT_plain q1 hp) rfl, split_last]
    intro b hb
    rcases List.mem_append.1 hb with hb | hb
    · exact plT_plain q2 hp b hb
    · exact mrT_plain q3 (by omega) b hb
  unfold guess
  rw [e, if_pos (show [plT p f, plT p t ++ mrT f t d h].length = 2 from rfl)]
  show (gFrom p (plT p f), gEnd (gFrom p (plT p f)) (plT p t ++ mrT f t d h)) = _
  rw [gFrom_good (by omega) hp]
  rcases q.2.2.2.2 with ⟨rfl, rfl, r1, r2⟩ | ⟨r1, r2⟩
  · have et : plT p (-1) = offL := by unfold plT; rw [if_neg (by omega), if_pos rfl]
    rw [et]
    by_cases hd : d = f + 1
    · have em : mrT f (-1) d false = [] := by unfold mrT; rw [if_neg (by decide), if_neg (by omega)]
      rw [em, hd]
      rfl
    · have em : mrT f (-1) d false = 40 :: (num2 d ++ [41]) := by unfold mrT; rw [if_neg (by decide), if_pos (by omega)]
      obtain ⟨k, hk⟩ := fin_of (n := d) (m := 10) (by omega) (by omega)
      rw [em]
      subst hk
      obtain ⟨k1, k2⟩ := die_end k
      unfold gEnd
      rw [if_pos ⟨by simp, by simp⟩, if_pos k1, k2, val_num _ (by omega) (by omega)]
  · have et : plT p t = num2 (t + 1) := by unfold plT; rw [if_neg (by omega), if_neg (by omega)]
    obtain ⟨k, hk⟩ := fin_of (n := t + 1) (m := 26) (by omega) (by omega)
    rw [et, hk]
    cases h
    · have em : mrT f t d false = [] := by unfold mrT; rw [if_neg (by decide), if_neg (by omega)]
      rw [em, List.append_nil]
      unfold gEnd
      rw [if_neg (num_end k).1, if_neg (num_end k).2, val_num _ (by omega) (by omega)]
      show (f, (k.val : Int) - 1, f - ((k.val : Int) - 1), false) = _
      rw [show (k.val : Int) - 1 = t by omega, show f - t = d by omega]
    · have em : mrT f t d true = [42] := rfl
      rw [em]
      unfold gEnd
      rw [if_neg (star_end k).1, if_pos (star_end k).2.1, (star_end k).2.2, val_num _ (by omega) (by omega)]
      show (f, (k.val : Int) - 1, f - ((k.val : Int) - 1), true) = _
      rw [show (k.val : Int) - 1 = t by omega, show f - t = d by omega]
theorem rd_good {p s f t d : Int} {h : Bool} (hp : p ≤ 24) (hs : s ≤ 6) (g : plB p s f t d h = true) : rd p s (stT p f t d h) = some (f, t, d, h) := by
  unfold rd
  rw [guess_good hp hs g]
  exact if_pos ⟨g, rfl⟩
theorem rd_some {p s : Int} {l : List UInt8} {f t d : Int} {h : Bool} (e : rd p s l = some (f, t, d, h)) : plB p s f t d h = true ∧ stT p f t d h = l := by
  unfold rd at e
  split at e
  · rename_i q
    simp only [Option.some.injEq] at e
    rw [e] at q
    exact q
  · cases e
/-- Any guess that finds the plain steps reads alike. -/
theorem rd_of {p s : Int} (hp : p ≤ 24) (hs : s ≤ 6) {l : List UInt8} {F T D : Int} {H : Bool}
    (G : ∀ f t d h, plB p s f t d h = true → stT p f t d h = l → (F, T, D, H) = (f, t, d, h)) :
    rd p s l = if plB p s F T D H = true ∧ stT p F T D H = l then some (F, T, D, H) else none := by
  by_cases q : plB p s F T D H = true ∧ stT p F T D H = l
  · rw [if_pos q, ← q.2, rd_good hp hs q.1]
  · rw [if_neg q]
    cases e : rd p s l with
    | none => rfl
    | some x =>
      obtain ⟨f, t, d, h⟩ := x
      obtain ⟨a, b⟩ := rd_some e
      have := G f t d h a b
      simp only [Prod.mk.injEq] at this
      obtain ⟨rfl, rfl, rfl, rfl⟩ := this
      exact absurd ⟨a, b⟩ q
theorem stT_len {p s f t d : Int} {h : Bool} (hp : p ≤ 24) (hs : s ≤ 6) (g : plB p s f t d h = true) : (stT p f t d h).length ≤ 8 ∧ 3 ≤ (stT p f t d h).length := by
  have q := plB_iff.1 g
  have l3 : ∀ i, (plT p i).length ≤ 3 ∧ 1 ≤ (plT p i).length := by
    intro i
    have n1 := num2_len (i + 1)
    have n2 : 1 ≤ (num2 (i + 1)).length := by unfold num2; split <;> simp
    unfold plT
    split
    · decide
    · split
      · decide
      · omega
  have a1 := l3 f
  have a2 := l3 t
  unfold stT
  simp only [List.length_append, List.length_cons]
  rcases q.2.2.2.2 with ⟨rfl, rfl, r1, r2⟩ | ⟨r1, r2⟩
  · have ef : (plT p f).length = 1 := by
      unfold plT
      rw [if_neg (by omega), if_neg (by omega), num2_lt (by omega)]
      rfl
    have em : (mrT f (-1) d false).length ≤ 3 := by
      unfold mrT
      rw [if_neg (by decide)]
      split
      · rw [num2_lt (by omega)]; simp
      · simp
    omega
  · have et : (plT p t).length ≤ 2 := by
      unfold plT
      rw [if_neg (by omega), if_neg (by omega)]
      exact num2_len _
    have em : (mrT f t d h).length ≤ 1 := by
      unfold mrT
      split
      · simp
      · rw [if_neg (by omega)]; simp
    omega
theorem rd_long {p s : Int} (hp : p ≤ 24) (hs : s ≤ 6) {l : List UInt8} (h : 8 < l.length) : rd p s l = none := by
  cases e : rd p s l with
  | none => rfl
  | some x =>
    obtain ⟨f, t, d, hh⟩ := x
    obtain ⟨a, b⟩ := rd_some e
    have := (stT_len hp hs a).1
    rw [b] at this
    omega

/-! ### the program's guess -/
/-- The place that a word names. -/
def plN (p : Int) (l : List UInt8) : Int :=
  if l = barL then p else if l = offL then -1 else if (Lib.atoi l).getD 0 < 1 then -2 else (Lib.atoi l).getD 0 - 1
theorem atoi_num : ∀ k : Fin 26, Lib.atoi (num2 (k.val : Int)) = some (k.val : Int) := by decide +kernel
theorem plN_good {p i : Int} (h : i = p ∨ i = -1 ∨ (0 ≤ i ∧ i < p)) (h0 : 0 ≤ p) (hp : p ≤ 24) : plN p (plT p i) = i := by
  unfold plN plT
  by_cases e : i = p
  · rw [if_pos e, if_pos rfl, e]
  · rw [if_neg e]
    by_cases e2 : i = -1
    · rw [if_pos e2, if_neg (by decide), if_pos rfl, e2]
    · rw [if_neg e2]
      obtain ⟨k, hk⟩ := fin_of (n := i + 1) (m := 26) (by omega) (by omega)
      rw [hk, if_neg (num_ne k).1, if_neg (num_ne k).2, atoi_num k]
      show (if (k.val : Int) < 1 then -2 else (k.val : Int) - 1) = i
      rw [if_neg (by omega)]
      omega
theorem index_one (c : UInt8) : ∀ (a b : List UInt8), c ∉ a → Lib.index (a ++ c :: b) [c] = (a.length : Int)
  | [], b, _ => by unfold Lib.index; simp
  | x :: a, b, h => by
    have ih := index_one c a b (fun g => h (by simp [g]))
    have hx : (c == x) = false := by rw [beq_eq_false_iff_ne]; rintro rfl; exact h (by simp)
    rw [List.cons_append, Lib.index, ih]
    have e1 : List.isPrefixOf [c] (x :: (a ++ c :: b)) = false := by simp [List.isPrefixOf, hx]
    have e2 : ((a.length : Int) == -1) = false := by rw [beq_eq_false_iff_ne]; omega
    rw [e1, e2]
    simp
theorem index_no (c : UInt8) : ∀ (a : List UInt8), c ∉ a → Lib.index a [c] = -1
  | [], _ => by unfold Lib.index; simp
  | x :: a, h => by
    have ih := index_no c a (fun g => h (by simp [g]))
    have hx : (c == x) = false := by rw [beq_eq_false_iff_ne]; rintro rfl; exact h (by simp)
    rw [Lib.index, ih]
    have e1 : List.isPrefixOf [c] (x :: a) = false := by simp [List.isPrefixOf, hx]
    rw [e1]
    simp
theorem cut_one (c : UInt8) (a b : List UInt8) (h : c ∉ a) : Lib.cut (a ++ c :: b) [c] = (a, b, true) := by
  unfold Lib.cut
  rw [index_one c a b h, if_pos (by omega)]
  simp
theorem cut_no (c : UInt8) (a : List UInt8) (h : c ∉ a) : Lib.cut a [c] = (a, [], false) := by
  unfold Lib.cut
  rw [index_no c a h, if_neg (by omega)]
/-- The parts of a text. -/
abbrev scA (l : List UInt8) : List UInt8 := (Lib.cut l [47]).1
abbrev scR (l : List UInt8) : List UInt8 := (Lib.cut l [47]).2.1
abbrev scP (r : List UInt8) : List UInt8 := (Lib.cut r [40]).1
abbrev scD (r : List UInt8) : List UInt8 := Lib.trimSuffix (Lib.cut r [40]).2.1 [41]
abbrev scN (r : List UInt8) : Bool := (Lib.cut r [40]).2.2
abbrev scT (r : List UInt8) : List UInt8 := Lib.trimSuffix (scP r) [42]
abbrev scH (r : List UInt8) : Bool := Lib.hasSuffix (scP r) [42]
theorem num_sc : ∀ k : Fin 26, scN (num2 (k.val : Int)) = false ∧ scT (num2 (k.val : Int)) = num2 (k.val : Int) ∧ scH (num2 (k.val : Int)) = false := by decide +kernel
theorem star_sc : ∀ k : Fin 26, scN (num2 (k.val : Int) ++ [42]) = false ∧ scT (num2 (k.val : Int) ++ [42]) = num2 (k.val : Int) ∧ scH (num2 (k.val : Int) ++ [42]) = true := by decide +kernel
theorem off_sc : scN offL = false ∧ scT offL = offL ∧ scH offL = false := by decide +kernel
theorem die_sc : ∀ k : Fin 10, scN (offL ++ 40 :: (num2 (k.val : Int) ++ [41])) = true ∧ scT (offL ++ 40 :: (num2 (k.val : Int) ++ [41])) = offL ∧ scH (offL ++ 40 :: (num2 (k.val : Int) ++ [41])) = false ∧ Lib.atoi (scD (offL ++ 40 :: (num2 (k.val : Int) ++ [41]))) = some (k.val : Int) := by decide +kernel
/-- The die that the program's guess has: what it reads behind the parenthesis, else the distance. -/
def scDie (F T : Int) (r : List UInt8) : Int := if scN r = true then (Lib.atoi (scD r)).getD 0 else IntKind.i64.wrap (F - T)
theorem sc_good {p s f t d : Int} {h : Bool} (hp : p ≤ 24) (hs : s ≤ 6) (g : plB p s f t d h = true) {l : List UInt8} (hl : stT p f t d h = l) :
    (plN p (scA l), plN p (scT (scR l)), scDie (plN p (scA l)) (plN p (scT (scR l))) (scR l), scH (scR l)) = (f, t, d, h) := by
  subst hl
  have q := plB_iff.1 g
  obtain ⟨q1, q2, q3, q4⟩ := plB_facts hp hs g
  have hc : Lib.cut (stT p f t d h) [47] = (plT p f, plT p t ++ mrT f t d h, true) := cut_one 47 _ _ (fun hm => plT_plain q1 hp 47 hm rfl)
  have eA : scA (stT p f t d h) = plT p f := by unfold scA; rw [hc]
  have eR : scR (stT p f t d h) = plT p t ++ mrT f t d h := by unfold scR; rw [hc]
  rw [eA, eR, plN_good q1 (by omega) hp]
  rcases q.2.2.2.2 with ⟨rfl, rfl, r1, r2⟩ | ⟨r1, r2⟩
  · have et : plT p (-1) = offL := by unfold plT; rw [if_neg (by omega), if_pos rfl]
    have en : plN p offL = -1 := by have := plN_good (i := -1) (.inr (.inl rfl)) (by omega) hp; rwa [et] at this
    rw [et]
    by_cases hd : d = f + 1
    · have em : mrT f (-1) d false = [] := by unfold mrT; rw [if_neg (by decide), if_neg (by omega)]
      rw [em, List.append_nil]
      unfold scDie
      rw [off_sc.1, off_sc.2.1, off_sc.2.2, en, if_neg (by decide), hd]
      have : IntKind.i64.wrap (f - -1) = f + 1 := by rw [show f - -1 = f + 1 by omega]; exact IntWalk.i64_in _ (by omega)
      rw [this]
    · have em : mrT f (-1) d false = 40 :: (num2 d ++ [41]) := by unfold mrT; rw [if_neg (by decide), if_pos (by omega)]
      obtain ⟨k, hk⟩ := fin_of (n := d) (m := 10) (by omega) (by omega)
      rw [em]
      subst hk
      obtain ⟨k1, k2, k3, k4⟩ := die_sc k
      unfold scDie
      rw [k1, k2, k3, en, k4, if_pos rfl]
      rfl
  · have et : plT p t = num2 (t + 1) := by unfold plT; rw [if_neg (by omega), if_neg (by omega)]
    have en : plN p (num2 (t + 1)) = t := by have := plN_good (i := t) (by omega) (by omega) hp; rwa [et] at this
    have ew : IntKind.i64.wrap (f - t) = d := by rw [show f - t = d by omega]; exact IntWalk.i64_in _ (by omega)
    obtain ⟨k, hk⟩ := fin_of (n := t + 1) (m := 26) (by omega) (by omega)
    rw [et]
    rw [hk] at en ⊢
    unfold scDie
    cases h
    · have em : mrT f t d false = [] := by unfold mrT; rw [if_neg (by decide), if_neg (by omega)]
      rw [em, List.append_nil, (num_sc k).1, (num_sc k).2.1, (num_sc k).2.2, en, if_neg (by decide), ew]
    · have em : mrT f t d true = [42] := rfl
      rw [em, (star_sc k).1, (star_sc k).2.1, (star_sc k).2.2, en, if_neg (by decide), ew]
end Go.Proofs.YthfhiggageejbaaDoor
