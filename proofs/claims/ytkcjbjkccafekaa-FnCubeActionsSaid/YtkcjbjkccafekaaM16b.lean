/- What every action leads to: mathematics; two lists of numbers compared. -/
import Derived.Test.Ytkcjbjkccafekaa16i
import Derived.Test.YtkcjbjkccafekaaOwnS
namespace Go.Proofs.Ytkcjbjkccafekaa
open Go.ChangeShapes Go.WideShapes Go.ChangeAt Go.RowKit
set_option linter.unusedVariables false
set_option linter.unusedSimpArgs false
set_option maxRecDepth 4000

theorem p2_add (i : Nat) : ∀ k, p2 i * p2 k = p2 (i + k)
  | 0 => by rw [p2_zero, Int.mul_one]; rfl
  | k + 1 => by
    rw [p2_succ, ← Nat.add_assoc, p2_succ, ← p2_add i k, ← Int.mul_assoc, ← Int.mul_assoc, Int.mul_comm (p2 i) 2]
theorem mayB_mono {m v o : Int} {j k : Nat} (hv : 1 ≤ v) (hj : j ≤ k) (h : mayB m v o k = true) : mayB m v o j = true := by
  unfold mayB at h ⊢
  simp only [Bool.and_eq_true, decide_eq_true_eq] at h ⊢
  refine ⟨h.1, Int.le_trans ?_ h.2⟩
  exact Int.mul_le_mul_of_nonneg_left (p2_mono hj) (by omega)
/-- More than one action is possible exactly if the player may double. -/
theorem acL_len {m : Int} {be : Bool} {v o : Int} (hv : 1 ≤ v) : decide (1 < (acL m be v o).length) = mayB m v o 1 := by
  cases h : mayB m v o 1 with
  | true =>
    simp only [acL, List.filter_cons, posB_0, posB_1, posB_2, h, if_true]
    simp
  | false =>
    have h2 : mayB m v o 2 = false := by
      cases q : mayB m v o 2 with
      | false => rfl
      | true => rw [mayB_mono hv (by omega) q] at h; cases h
    have h3 : mayB m v o 3 = false := by
      cases q : mayB m v o 3 with
      | false => rfl
      | true => rw [mayB_mono hv (by omega) q] at h; cases h
    simp [acL, List.filter_cons, posB_0, posB_1, posB_2, posB_3, posB_4, h, h2, h3]
theorem may_of_pos {m : Int} {be : Bool} {v o a : Int} (h : posB m be v o a = true) (h0 : a ≠ 0) (h2 : a ≠ 2) : 1 ≤ dbN a ∧ mayB m v o (dbN a) = true := by
  rcases posB_cases h with rfl | rfl | rfl | rfl | rfl
  · exact absurd rfl h0
  · rw [posB_1] at h
    exact ⟨by decide, h⟩
  · exact absurd rfl h2
  · rw [posB_3, Bool.and_eq_true] at h
    exact ⟨by decide, h.2⟩
  · rw [posB_4, Bool.and_eq_true] at h
    exact ⟨by decide, h.2⟩
/-- A cube that has been turned is valid and belongs to the other player. -/
theorem cb_after {m : Int} {be : Bool} {v o a : Int} (g : cbB m v o = true) (h : posB m be v o a = true) (h0 : a ≠ 0) (h2 : a ≠ 2) : cbB m (v * p2 (dbN a)) 2 = true ∧ aaR v o a = (v * p2 (dbN a), 2, 0) := by
  obtain ⟨hd, hm⟩ := may_of_pos h h0 h2
  obtain ⟨q1, q2, q3, q4, q5, -⟩ := cbB_parts g
  refine ⟨?_, by unfold aaR; rw [if_neg h0, if_neg h2]⟩
  obtain ⟨i, hi, rfl⟩ := pwB_p2.1 q2
  unfold mayB at hm
  simp only [Bool.and_eq_true, decide_eq_true_eq] at hm
  rw [p2_add] at hm ⊢
  have hik := p2_small (show p2 (i + dbN a) ≤ 1024 by omega)
  have h1 : p2 (i + dbN a) ≠ 1 := by
    have := @p2_mono 1 (i + dbN a) (by omega)
    rw [show p2 1 = 2 by decide] at this
    omega
  unfold cbB upB fitB
  rw [q1, pwB_p2.2 ⟨_, hik, rfl⟩, decide_eq_true hm.2, if_neg h1]
  rfl
theorem caL_in {m : Int} {be : Bool} {v o : Int} {k : Nat} (h : k < (caL m be v o).length) : cbB m v o = true ∧ posB m be v o ((caL m be v o).getD k 0) = true := by
  unfold caL at h ⊢
  cases g : cbB m v o with
  | false => rw [g, if_neg (by simp)] at h; simp at h
  | true =>
    rw [g, if_pos rfl] at h
    refine ⟨rfl, ?_⟩
    rw [if_pos rfl]
    refine acL_mem.1 ?_
    rw [List.getD_eq_getElem?_getD, List.getElem?_eq_getElem h]
    exact List.getElem_mem _
theorem caL_len {m : Int} {be : Bool} {v o : Int} : (cbB m v o && mayB m v o 1) = decide (1 < (caL m be v o).length) := by
  unfold caL
  cases g : cbB m v o with
  | false => simp
  | true =>
    have := (cbB_parts g).2.2.1
    rw [if_pos rfl, acL_len this, Bool.true_and]
theorem aa_five {m : Int} {be : Bool} {v o : Int} : ∃ c, aaV m be v o 5 = (0, 0, 0, c) ∧ (c = 1 ∨ c = 2) := by
  cases g : cbB m v o with
  | false => exact ⟨1, aaV_bad g, .inl rfl⟩
  | true => exact ⟨2, aaV_range g (posB_else m be v o (by decide) (by decide) (by decide) (by decide) (by decide)), .inr rfl⟩
set_option maxHeartbeats 1000000 in
theorem likeInts_same (a b : Option Addr) (n c1 c2 : Nat) (xs : List Int) (w : World) (hn : xs.length = n) (hle : n ≤ 1048576) (ha : IRow w a xs) (hb : IRow w b xs) :
    Calls Try.prog 15 #[.slice a n c1, .slice b n c2] w fun e w' => e = .returned (.bool true) ∧ Below w.heap.size w w' := by
  subst hn
  go_enter Try.func15, Try.ntmps15
  go_wp2
  go_loopg [5] xs.length (fun m i wr => ∃ k : Nat, k ≤ xs.length ∧ m = xs.length - k ∧ i = .int .i64 k ∧ Below w.heap.size w wr)
  case atStart => exact ⟨0, by omega, by omega, rfl, Below.refl _ _⟩
  case round =>
    obtain ⟨k, hk, hm, rfl, hbel⟩ := hrel
    by_cases hlt : k < xs.length
    · have hlt' : (k : Int) < (xs.length : Int) := by omega
      have hk0 : (0 : Int) ≤ (k : Int) := by omega
      obtain ⟨b1, o1, rfl, hc1⟩ := ha.below hbel k hlt
      obtain ⟨b2, o2, rfl, hc2⟩ := hb.below hbel k hlt
      go_wp2_with fail
      go_quiet (fail)
      go_wp2
      go_roundg (xs.length - (k + 1))
      case measure => omega
      case rel => exact ⟨k + 1, by omega, rfl, by go_num, below_drewN hbel _⟩
    · obtain rfl : k = xs.length := by omega
      go_wp2
      go_ret
      exact ⟨rfl, hbel⟩
end Go.Proofs.Ytkcjbjkccafekaa
