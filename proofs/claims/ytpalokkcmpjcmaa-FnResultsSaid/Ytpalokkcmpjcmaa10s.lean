/- Contract of chapter 10: the comparison of positions. -/
import Derived.Test.YtpalokkcmpjcmaaPos
import Derived.BigQuiet
import Derived.Deep.QuietTactic
import Derived.Deep.LoopGhost
namespace Go.Proofs.Ytpalokkcmpjcmaa
open Go.ChangeShapes Go.WideShapes Go.ChangeAt Go.RowKit
set_option linter.unusedVariables false
set_option linter.unusedSimpArgs false
set_option maxRecDepth 4000

/-- -1, 0 or 1. -/
def sg3 (a b : Int) : Int := if a < b then -1 else if b < a then 1 else 0
theorem isNaN_any (a : Int) (w : World) : Calls Try.prog 76 #[.int .i64 a] w fun e w' => e = .returned (.bool false) ∧ w = w' := by
  have f0 : (a != a) = false := by simp
  go_enter Try.func76, Try.ntmps76
  go_wp2
  go_ret
  exact ⟨rfl, rfl⟩
theorem compare64_any (a b : Int) (w : World) : Calls Try.prog 69 #[.int .i64 a, .int .i64 b] w fun e w' => e = .returned (.int .i64 (sg3 a b)) ∧ w = w' := by
  unfold sg3
  by_cases h1 : a < b
  · rw [if_pos h1]
    go_enter Try.func69, Try.ntmps69
    go_wp2_with (go_at_call 76; refine (isNaN_any _ _).mono ?_; rintro e w1 ⟨rfl, rfl⟩)
    go_ret
    exact ⟨rfl, rfl⟩
  · rw [if_neg h1]
    by_cases h2 : b < a
    · rw [if_pos h2]
      go_enter Try.func69, Try.ntmps69
      go_wp2_with (go_at_call 76; refine (isNaN_any _ _).mono ?_; rintro e w1 ⟨rfl, rfl⟩)
      go_ret
      exact ⟨rfl, rfl⟩
    · rw [if_neg h2]
      go_enter Try.func69, Try.ntmps69
      go_wp2_with (go_at_call 76; refine (isNaN_any _ _).mono ?_; rintro e w1 ⟨rfl, rfl⟩)
      go_ret
      exact ⟨rfl, rfl⟩
theorem compare64_same (a b : Int) (w : World) : Calls Try.prog 69 #[.int .i64 a, .int .i64 b] w fun e w' => e = .returned (.int .i64 (sg3 a b)) ∧ w' = w := (compare64_any a b w).mono fun _ _ h => ⟨h.1, h.2.symm⟩
theorem rev_drop (xs : List Int) (j n : Nat) (hn : xs.length = n) (h : j < n) : xs.reverse.drop j = xs.getD (n - 1 - j) 0 :: xs.reverse.drop (j + 1) := by
  subst hn
  rw [List.drop_eq_getElem_cons (by simpa using h)]
  congr 1
  rw [List.getElem_reverse, List.getD_eq_getElem?_getD, List.getElem?_eq_getElem (by omega)]
  rfl
set_option maxHeartbeats 1000000 in
theorem comparePositions_any (a b : Option Addr) (n ca cb : Nat) (xs ys : List Int) (w : World) (hx : xs.length = n) (hy : ys.length = n) (hle : n ≤ 1048576) (ra : ∀ k, IRow (w.drewN k) a xs) (rb : ∀ k, IRow (w.drewN k) b ys) :
    Calls Try.prog 63 #[.slice a n ca, .slice b n cb] w fun e w' => e = .returned (.int .i64 (cmpP xs ys)) ∧ ∃ q, w' = w.drewN q := by
  obtain ⟨R, hR⟩ : ∃ R, cmpP xs ys = R := ⟨_, rfl⟩
  rw [hR]
  have h0 : lexC (xs.reverse.drop 0) (ys.reverse.drop 0) = R := hR
  have HX := Lib.hid hx
  have HY := Lib.hid hy
  have n0 : (n : Int) ≤ 1048576 := by omega
  clear hR hx hy
  go_enter Try.func63, Try.ntmps63
  go_wp2_with fail
  go_loopg [5, 6] (n + 1) (fun m i t wr => ∃ j q : Nat, j ≤ n ∧ m = n + 1 - j ∧ i = .int .i64 ((n : Int) - 1 - j) ∧ lexC (xs.reverse.drop j) (ys.reverse.drop j) = R ∧ w.drewN q = wr)
  case atStart => exact ⟨0, 0, by omega, by omega, by go_num, h0, rfl⟩
  case round =>
    clear h0
    obtain ⟨j, q, hj, hm, rfl, hl, hW⟩ := hrel
    have ra1 := ra q
    have rb1 := rb q
    rw [hW] at ra1 rb1
    by_cases hlt : j < n
    · obtain ⟨I, hI⟩ : ∃ I, n - 1 - j = I := ⟨_, rfl⟩
      have ei : (n : Int) - 1 - (j : Int) = (I : Int) := by omega
      rw [rev_drop xs j n HX.out hlt, rev_drop ys j n HY.out hlt, lexC_cons, hI] at hl
      obtain ⟨b1, o1, rfl, hc1⟩ := ra1 I (by have := HX.out; omega)
      obtain ⟨b2, o2, rfl, hc2⟩ := rb1 I (by have := HY.out; omega)
      obtain ⟨x, hxe⟩ : ∃ x, xs.getD I 0 = x := ⟨_, rfl⟩
      obtain ⟨y, hye⟩ : ∃ y, ys.getD I 0 = y := ⟨_, rfl⟩
      rw [hxe, hye] at hl
      rw [hxe] at hc1
      rw [hye] at hc2
      rw [ei]
      have i0 : (0 : Int) ≤ (I : Int) := by omega
      have i1 : (I : Int) < (n : Int) := by omega
      have hcc := fun W => compare64_same x y W
      unfold sg3 at hcc
      have HI := Lib.hid ei
      clear hI hxe hye ei hj
      by_cases c1 : x < y
      · rw [if_pos c1] at hl hcc
        subst hl
        have HC := Lib.hid hcc
        clear hcc
        go_wp2_with fail
        go_quiet (first | (go_at_call 69; refine Calls.quiet_of_same (HC.out _)))
        go_wp2
        go_ret
        exact ⟨rfl, _, by rw [← hW, World.drewN_drewN]⟩
      · by_cases c2 : y < x
        · rw [if_neg c1, if_pos c2] at hl hcc
          subst hl
          have HC := Lib.hid hcc
          clear hcc
          go_wp2_with fail
          go_quiet (first | (go_at_call 69; refine Calls.quiet_of_same (HC.out _)))
          go_wp2
          go_ret
          exact ⟨rfl, _, by rw [← hW, World.drewN_drewN]⟩
        · rw [if_neg c1, if_neg c2] at hl hcc
          have HC := Lib.hid hcc
          have HL := Lib.hid hl
          clear hcc hl
          go_wp2_with fail
          go_quiet (first | (go_at_call 69; refine Calls.quiet_of_same (HC.out _)))
          go_wp2
          go_roundg (n + 1 - (j + 1))
          case measure => omega
          case rel => exact ⟨j + 1, _, by omega, by omega, by (have := HI.out); go_num, HL.out, by rw [← hW, World.drewN_drewN]⟩
    · obtain rfl : j = n := by omega
      have hR : R = 0 := by
        rw [← hl, List.drop_eq_nil_of_le (by rw [List.length_reverse, HX.out]; exact Nat.le_refl _), List.drop_eq_nil_of_le (by rw [List.length_reverse, HY.out]; exact Nat.le_refl _)]
        rfl
      have hm1 : (j : Int) - 1 - (j : Int) = -1 := by omega
      rw [hm1]
      subst hR
      go_wp2
      go_ret
      exact ⟨rfl, q, hW.symm⟩
end Go.Proofs.Ytpalokkcmpjcmaa
