/- Contracts of the model's open points and of its step from a place. -/
import Derived.Test.Ytokjkcnjmfbfiaa04d
import Derived.Test.YtokjkcnjmfbfiaaL02d
namespace Go.Proofs.Ytokjkcnjmfbfiaa
open Go.ChangeShapes Go.WideShapes Go.ChangeAt Go.RowKit
set_option linter.unusedVariables false
set_option linter.unusedSimpArgs false
set_option maxRecDepth 4000

theorem lastL_ge {xs : List Int} {k : Nat} (h : 0 < xs.getD k 0) : ∀ n, k < n → (k : Int) ≤ lastL xs n
  | 0, h0 => by omega
  | n + 1, h0 => by
    by_cases hk : k = n
    · subst hk
      rw [lastL_pos h]
      omega
    · have ih := lastL_ge h n (by omega)
      rw [lastL]
      split <;> omega
section
variable {P : Nat} {h : Int} {xs ys : List Int} {k : Nat} {d : Int}
theorem stepI_blocked (N1 : xs.length = P + 1) (hh : h ≤ (P : Int)) (k1 : k ≤ P) (d0 : 1 ≤ d) (hk : k ≠ P) (hp : 0 < xs.getD P 0) : stepI P h xs ys k d = none := by
  have hl : lastL xs xs.length = (P : Int) := by rw [N1]; exact lastL_pos hp
  unfold stepI alB
  rw [hl, if_neg hk]
  split
  · rfl
  · rw [if_neg]
    split <;> simp <;> omega
theorem stepI_pos (N1 : xs.length = P + 1) (N2 : ys.length = P + 1) (hy : ∀ y ∈ ys, 0 ≤ y ∧ y ≤ 1000) (hx : ∀ x ∈ xs, 0 ≤ x ∧ x ≤ 1000) (k1 : k ≤ P) (d0 : 1 ≤ d) (hf : ¬ (0 < xs.getD P 0 ∧ k ≠ P)) (g0 : xs.getD k 0 ≠ 0) (t : Nat) (ht : (k : Int) - d = (t : Int)) :
    stepI P h xs ys k d = if ys.getD (P - 1 - t) 0 ≤ 1 then some ((k : Int), (t : Int), d, decide (ys.getD (P - 1 - t) 0 = 1)) else none := by
  have hal : alB P h xs ys k d = decide (ys.getD (P - 1 - t) 0 ≤ 1) := by
    have ho : openB P ys ((k : Int) - d) = decide (ys.getD (P - 1 - t) 0 ≤ 1) := by
      unfold openB
      rw [ht, decide_eq_true (show (0 : Int) ≤ (t : Int) by omega), decide_eq_true (show (t : Int) < (P : Int) by omega)]
      simp
    unfold alB
    by_cases hk : k = P
    · rw [if_pos hk, ho]
    · rw [if_neg hk, if_pos (by omega), ho]
      have hz : xs.getD P 0 = 0 := by
        have := (hx _ (getD_mem (xs := xs) (k := P) (by omega))).1
        have : ¬ 0 < xs.getD P 0 := fun hp => hf ⟨hp, hk⟩
        omega
      have hl : lastL xs xs.length < (P : Int) := by
        rw [N1, lastL_not hz]
        exact (lastL_bound xs P).2
      rw [decide_eq_true hl, Bool.true_and]
  have hto : toI P k d = (t : Int) := by
    unfold toI
    by_cases hk : k = P
    · rw [if_pos (.inl hk), ht]
    · rw [if_pos (.inr (by omega)), ht]
  unfold stepI
  rw [if_neg g0, hal, hto]
  have hg := (hy _ (getD_mem (xs := ys) (k := P - 1 - t) (by omega))).1
  by_cases h1 : ys.getD (P - 1 - t) 0 ≤ 1
  · rw [if_pos (by simpa using h1), if_pos h1]
    have e1 : decide ((t : Int) ≠ -1) = true := by simp
    have e2 : (t : Int).toNat = t := by simp
    rw [e1, Bool.true_and, e2, decide_eq_decide.2 (show (0 < ys.getD (P - 1 - t) 0 ↔ ys.getD (P - 1 - t) 0 = 1) by omega)]
  · rw [if_neg (by simpa using h1), if_neg h1]
theorem stepI_neg (N1 : xs.length = P + 1) (hh : h ≤ (P : Int)) (k1 : k ≤ P) (d0 : 1 ≤ d) (hf : ¬ (0 < xs.getD P 0 ∧ k ≠ P)) (hx : ∀ x ∈ xs, 0 ≤ x ∧ x ≤ 1000) (g0 : xs.getD k 0 ≠ 0) (ht : (k : Int) - d < 0) :
    stepI P h xs ys k d = if h ≤ lastL xs xs.length ∨ ((k : Int) - d < -1 ∧ (k : Int) < lastL xs xs.length) then none else some ((k : Int), -1, d, false) := by
  have hg : 0 < xs.getD k 0 := by have := (hx _ (getD_mem (xs := xs) (k := k) (by omega))).1; omega
  have hge := lastL_ge hg xs.length (by omega)
  by_cases hk : k = P
  · subst hk
    have hl : lastL xs xs.length = (k : Int) := by rw [N1]; exact lastL_pos hg
    rw [if_pos (.inl (by omega))]
    unfold stepI alB
    rw [if_neg g0, if_pos rfl, if_neg]
    unfold openB
    rw [decide_eq_false (show ¬ (0 : Int) ≤ (k : Int) - d by omega), Bool.false_and]
    simp
  · have hto : toI P k d = -1 := by
      unfold toI
      rw [if_neg (by omega)]
    unfold stepI alB
    rw [if_neg g0, if_neg hk, if_neg (show ¬ d ≤ (k : Int) by omega), hto]
    generalize lastL xs xs.length = F at *
    by_cases hc : h ≤ F ∨ ((k : Int) - d < -1 ∧ (k : Int) < F)
    · rw [if_pos hc, if_neg]
      simp
      omega
    · rw [if_neg hc, if_pos]
      · simp
      · simp
        omega
end
/-- The model's step from a place. -/
def stepS (P : Nat) (h : Int) (xs ys : List Int) (k : Nat) (d : Int) : Option Stp := if overB xs ys = true then none else stepI P h xs ys k d
set_option maxHeartbeats 1000000 in
theorem l04Open_any (P : Nat) (c h s : Int) (a1 a2 : Option Addr) (n1 n2 c1 c2 : Nat) (xs ys : List Int) (w : World) (h1 : xs.length = n1) (h2 : ys.length = n2) (p0 : 2 ≤ P) (p1 : P ≤ 24) (N1 : xs.length = P + 1) (N2 : ys.length = P + 1) (hh0 : 1 ≤ h) (hh : h ≤ (P : Int)) (hx : ∀ x ∈ xs, 0 ≤ x ∧ x ≤ 1000) (hy : ∀ y ∈ ys, 0 ≤ y ∧ y ≤ 1000) (r1 : IRow w a1 xs) (r2 : IRow w a2 ys) (t : Nat) (tP : t < P) :
    Calls Try.prog 161 #[.agg #[.int .i64 (P : Int), .int .i64 c, .int .i64 h, .int .i64 s], .agg #[.slice a1 n1 c1, .slice a2 n2 c2], .int .i64 (t : Int)] w fun e w' => e = .returned (.bool (decide (ys.getD (P - 1 - t) 0 ≤ 1))) ∧ Below w.heap.size w w' := by
  obtain ⟨BV, BB, hb, hz⟩ := two_new w #[.int .i64 (P : Int), .int .i64 c, .int .i64 h, .int .i64 s] #[.slice a1 n1 c1, .slice a2 n2 c2] 32 34
  obtain ⟨x0, x1, x2, x3, xf, xl⟩ := BV.four
  obtain ⟨y0, y1, yf, yl⟩ := BB.two
  obtain ⟨b, o, rfl, hc⟩ := r2.below hb (P - 1 - t) (by omega)
  have e1 : ((P : Int) - 1 - (t : Int)) = ((P - 1 - t : Nat) : Int) := by omega
  have hlt : P - 1 - t < n2 := by omega
  have hltI : ((P - 1 - t : Nat) : Int) < (n2 : Int) := by omega
  obtain ⟨v, hv⟩ : ∃ v, ys.getD (P - 1 - t) 0 = v := ⟨_, rfl⟩
  obtain ⟨K, hK⟩ : ∃ K, P - 1 - t = K := ⟨_, rfl⟩
  rw [hv] at hc ⊢
  rw [hK] at hc e1 hlt hltI
  have wz1 : IntKind.i64.wrap ((P : Int) - 1 - (t : Int)) = (K : Int) := by rw [e1]; exact IntWalk.i64_in _ (by omega)
  clear hv hK e1 r1 r2 hx hy N1 N2 h1 h2
  go_enter Try.func161, Try.ntmps161
  go_wp2
  go_ret
  exact ⟨rfl, hb⟩
end Go.Proofs.Ytokjkcnjmfbfiaa
