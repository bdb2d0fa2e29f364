/- Contracts of the library's functions on slices of steps that take a predicate: the first place, whether there is one, deletion. -/
import Derived.Test.YtjglempkmenacaaStpL
import Derived.Test.YtjglempkmenacaaImpl02a
namespace Go.Proofs.Ytjglempkmenacaa
open Go.ChangeShapes Go.WideShapes Go.ChangeAt Go.RowKit
set_option linter.unusedVariables false
set_option linter.unusedSimpArgs false
set_option maxRecDepth 4000

/-- The first place at which a predicate holds, or -1. -/
def firstI (pr : Stp → Bool) : List Stp → Int
  | [] => -1
  | s :: l => if pr s = true then 0 else if firstI pr l < 0 then -1 else firstI pr l + 1
theorem firstI_low (pr : Stp → Bool) : ∀ l, -1 ≤ firstI pr l ∧ firstI pr l < l.length
  | [] => by simp [firstI]
  | s :: l => by
    have := firstI_low pr l
    rw [firstI, List.length_cons]
    split
    · omega
    · split <;> omega
theorem firstI_at (pr : Stp → Bool) : ∀ (l : List Stp) (k : Nat) (t : Stp), (∀ j s, j < k → l[j]? = some s → pr s = false) → l[k]? = some t → pr t = true → firstI pr l = (k : Int)
  | [], k, t, _, h, _ => by simp at h
  | s :: l, 0, t, _, h, hp => by
    simp at h
    subst h
    rw [firstI, if_pos hp]
    rfl
  | s :: l, k + 1, t, ha, h, hp => by
    have h0 := ha 0 s (by omega) (by simp)
    have ih := firstI_at pr l k t (fun j x hj hx => ha (j + 1) x (by omega) (by simpa using hx)) (by simpa using h) hp
    rw [firstI, if_neg (by simp [h0]), ih, if_neg (by omega)]
    omega
theorem firstI_none (pr : Stp → Bool) : ∀ (l : List Stp), (∀ j s, j < l.length → l[j]? = some s → pr s = false) → firstI pr l = -1
  | [], _ => rfl
  | s :: l, ha => by
    have h0 := ha 0 s (by simp) (by simp)
    have ih := firstI_none pr l (fun j x hj hx => ha (j + 1) x (by simpa using hj) (by simpa using hx))
    rw [firstI, if_neg (by simp [h0]), ih]
    rfl
theorem firstI_any (pr : Stp → Bool) : ∀ l, decide (0 ≤ firstI pr l) = l.any pr
  | [] => rfl
  | s :: l => by
    have ih := firstI_any pr l
    have hl := (firstI_low pr l).1
    rw [firstI, List.any_cons]
    by_cases h : pr s = true
    · rw [if_pos h, h]
      rfl
    · rw [if_neg h, ← ih, show pr s = false by simpa using h, Bool.false_or]
      by_cases h2 : firstI pr l < 0
      · rw [if_pos h2, decide_eq_false (by omega), decide_eq_false (by omega)]
      · rw [if_neg h2, decide_eq_true (by omega), decide_eq_true (by omega)]
set_option maxRecDepth 8000 in
set_option maxHeartbeats 2000000 in
theorem indexFunc_any (lo hi : Nat) (a : Option Addr) (n cap : Nat) (l : List Stp) (pf : Nat) (pr : Stp → Bool) (w : World) (hn : l.length = n) (hle : n ≤ 1048576) (h1 : OSt lo hi w a l) (he : ∀ (args : Array Value) (w2 : World), (callFunc pf args).run Try.prog w2 = .ok (.enter pf args) w2) (hp : ∀ W, Below w.heap.size w W → ∀ s : Stp, Calls Try.prog pf #[stV s] W fun e w2 => e = .returned (.bool (pr s)) ∧ Below W.heap.size W w2) :
    Calls Try.prog 103 #[.slice a n cap, .func (.func pf) #[] #[]] w fun e w' => e = .returned (.int .i64 (firstI pr l)) ∧ Below w.heap.size w w' := by
  subst hn
  have HP := Lib.hid hp
  have h2 := firstI_at pr l
  have h3 := firstI_none pr l
  obtain ⟨R, hR⟩ : ∃ R, firstI pr l = R := ⟨_, rfl⟩
  rw [hR] at h2 h3 ⊢
  have H2 := Lib.hid h2
  have H3 := Lib.hid h3
  clear hR h2 h3 hp
  go_enter Try.func103, Try.ntmps103
  go_wp2
  go_loopg [8] l.length (fun m i wr => ∃ k : Nat, k ≤ l.length ∧ m = l.length - k ∧ i = .int .i64 k ∧ (∀ j s, j < k → l[j]? = some s → pr s = false) ∧ Below w.heap.size w wr)
  case atStart => exact ⟨0, by omega, by omega, rfl, fun j s hj => by omega, Below.refl _ _⟩
  case round =>
    obtain ⟨k, hk, hm, rfl, hall, hbel⟩ := hrel
    have HA := Lib.hid hall
    clear hall
    by_cases hlt : k < l.length
    · have hlt' : (k : Int) < (l.length : Int) := by omega
      have hk0 : (0 : Int) ≤ (k : Int) := by omega
      obtain ⟨g1, rfl, R1⟩ := (h1.below hbel).row hlt
      obtain ⟨t, ht⟩ : ∃ t, l[k]? = some t := ⟨_, List.getElem?_eq_getElem hlt⟩
      obtain ⟨u0, u1, u2, u3⟩ := R1.four k t ht
      have hpt := HP.out wr hbel t
      have HT := Lib.hid ht
      clear R1 h1 ht
      obtain ⟨ta, tb, tc, td⟩ := t
      dsimp only at u0 u1 u2 u3
      cases hpr : pr (ta, tb, tc, td) with
      | true =>
        rw [hpr] at hpt
        have hRk : R = (k : Int) := H2.out k _ HA.out HT.out hpr
        subst hRk
        have HC := Lib.hid hpt
        clear hpt hpr
        go_wp2_with (go_at_fn pf; refine HC.out.mono ?_; rintro e w5 ⟨rfl, hb5⟩)
        go_ret
        exact ⟨rfl, chain hbel hb5⟩
      | false =>
        rw [hpr] at hpt
        have HC := Lib.hid hpt
        have HPR := Lib.hid hpr
        clear hpt hpr
        go_wp2_with (go_at_fn pf; refine HC.out.mono ?_; rintro e w5 ⟨rfl, hb5⟩)
        go_roundg (l.length - (k + 1))
        case measure => omega
        case rel =>
          refine ⟨k + 1, by omega, rfl, by go_num, fun j s hj hs => ?_, chain hbel hb5⟩
          by_cases hjk : j = k
          · subst hjk
            rw [HT.out] at hs
            simp only [Option.some.injEq] at hs
            rw [← hs]
            exact HPR.out
          · exact HA.out j s (by omega) hs
    · obtain rfl : k = l.length := by omega
      have hRk : R = -1 := H3.out HA.out
      subst hRk
      go_wp2
      go_ret
      exact ⟨rfl, hbel⟩
set_option maxRecDepth 8000 in
set_option maxHeartbeats 2000000 in
theorem indexFunc_two (lo hi : Nat) (a : Option Addr) (n cap : Nat) (l : List Stp) (pf : Nat) (b1 b2 : Nat) (pr : Stp → Bool) (w : World) (hn : l.length = n) (hle : n ≤ 1048576) (h1 : OSt lo hi w a l) (he : ∀ (args : Array Value) (w2 : World), (callFunc pf args).run Try.prog w2 = .ok (.enter pf args) w2) (hp : ∀ W, Below w.heap.size w W → ∀ s : Stp, Calls Try.prog pf #[stV s, .pointer (some ⟨b1, 0, none⟩), .pointer (some ⟨b2, 0, none⟩)] W fun e w2 => e = .returned (.bool (pr s)) ∧ Below W.heap.size W w2) :
    Calls Try.prog 103 #[.slice a n cap, .func (.func pf) #[] #[.pointer (some ⟨b1, 0, none⟩), .pointer (some ⟨b2, 0, none⟩)]] w fun e w' => e = .returned (.int .i64 (firstI pr l)) ∧ Below w.heap.size w w' := by
  subst hn
  have HP := Lib.hid hp
  have h2 := firstI_at pr l
  have h3 := firstI_none pr l
  obtain ⟨R, hR⟩ : ∃ R, firstI pr l = R := ⟨_, rfl⟩
  rw [hR] at h2 h3 ⊢
  have H2 := Lib.hid h2
  have H3 := Lib.hid h3
  clear hR h2 h3 hp
  go_enter Try.func103, Try.ntmps103
  go_wp2
  go_loopg [8] l.length (fun m i wr => ∃ k : Nat, k ≤ l.length ∧ m = l.length - k ∧ i = .int .i64 k ∧ (∀ j s, j < k → l[j]? = some s → pr s = false) ∧ Below w.heap.size w wr)
  case atStart => exact ⟨0, by omega, by omega, rfl, fun j s hj => by omega, Below.refl _ _⟩
  case round =>
    obtain ⟨k, hk, hm, rfl, hall, hbel⟩ := hrel
    have HA := Lib.hid hall
    clear hall
    by_cases hlt : k < l.length
    · have hlt' : (k : Int) < (l.length : Int) := by omega
      have hk0 : (0 : Int) ≤ (k : Int) := by omega
      obtain ⟨g1, rfl, R1⟩ := (h1.below hbel).row hlt
      obtain ⟨t, ht⟩ : ∃ t, l[k]? = some t := ⟨_, List.getElem?_eq_getElem hlt⟩
      obtain ⟨u0, u1, u2, u3⟩ := R1.four k t ht
      have hpt := HP.out wr hbel t
      have HT := Lib.hid ht
      clear R1 h1 ht
      obtain ⟨ta, tb, tc, td⟩ := t
      dsimp only at u0 u1 u2 u3
      cases hpr : pr (ta, tb, tc, td) with
      | true =>
        rw [hpr] at hpt
        have hRk : R = (k : Int) := H2.out k _ HA.out HT.out hpr
        subst hRk
        have HC := Lib.hid hpt
        clear hpt hpr
        go_wp2_with (go_at_fn pf; refine HC.out.mono ?_; rintro e w5 ⟨rfl, hb5⟩)
        go_ret
        exact ⟨rfl, chain hbel hb5⟩
      | false =>
        rw [hpr] at hpt
        have HC := Lib.hid hpt
        have HPR := Lib.hid hpr
        clear hpt hpr
        go_wp2_with (go_at_fn pf; refine HC.out.mono ?_; rintro e w5 ⟨rfl, hb5⟩)
        go_roundg (l.length - (k + 1))
        case measure => omega
        case rel =>
          refine ⟨k + 1, by omega, rfl, by go_num, fun j s hj hs => ?_, chain hbel hb5⟩
          by_cases hjk : j = k
          · subst hjk
            rw [HT.out] at hs
            simp only [Option.some.injEq] at hs
            rw [← hs]
            exact HPR.out
          · exact HA.out j s (by omega) hs
    · obtain rfl : k = l.length := by omega
      have hRk : R = -1 := H3.out HA.out
      subst hRk
      go_wp2
      go_ret
      exact ⟨rfl, hbel⟩
set_option maxHeartbeats 1000000 in
theorem containsFunc_two (lo hi : Nat) (a : Option Addr) (n cap : Nat) (l : List Stp) (pf : Nat) (b1 b2 : Nat) (pr : Stp → Bool) (w : World) (hn : l.length = n) (hle : n ≤ 1048576) (h1 : OSt lo hi w a l)
    (he : ∀ (args : Array Value) (w2 : World), (callFunc pf args).run Try.prog w2 = .ok (.enter pf args) w2) (hp : ∀ W, Below w.heap.size w W → ∀ s : Stp, Calls Try.prog pf #[stV s, .pointer (some ⟨b1, 0, none⟩), .pointer (some ⟨b2, 0, none⟩)] W fun e w2 => e = .returned (.bool (pr s)) ∧ Below W.heap.size W w2) :
    Calls Try.prog 78 #[.slice a n cap, .func (.func pf) #[] #[.pointer (some ⟨b1, 0, none⟩), .pointer (some ⟨b2, 0, none⟩)]] w fun e w' => e = .returned (.bool (l.any pr)) ∧ Below w.heap.size w w' := by
  have hi0 := indexFunc_two lo hi a n cap l pf b1 b2 pr w hn hle h1 he hp
  have hq := firstI_any pr l
  obtain ⟨R, hR⟩ : ∃ R, firstI pr l = R := ⟨_, rfl⟩
  rw [hR] at hi0 hq
  rw [← hq]
  have HI := Lib.hid hi0
  clear hi0 hR hq he hp h1
  go_enter Try.func78, Try.ntmps78
  go_wp2_with (go_at_call 103; refine HI.out.mono ?_; rintro e w5 ⟨rfl, hb5⟩)
  go_ret
  exact ⟨rfl, hb5⟩
end Go.Proofs.Ytjglempkmenacaa
