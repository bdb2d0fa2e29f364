/- Contracts of the program on the cube that is turned. -/
import Derived.Test.Ytkcjbjkccafekaa16a
namespace Go.Proofs.Ytkcjbjkccafekaa
open Go.ChangeShapes Go.WideShapes Go.ChangeAt Go.RowKit
set_option linter.unusedVariables false
set_option linter.unusedSimpArgs false
set_option maxRecDepth 4000

set_option maxRecDepth 8000 in
set_option maxHeartbeats 1000000 in
theorem turned_any (v o : Int) (K : Nat) (w : World) (hK : K ≤ 3) (hv : 1 ≤ v ∧ v ≤ 1024) :
    Calls Try.prog 56 #[.agg #[.int .i64 v, .int .i64 o], .int .i64 (K : Int)] w fun e w' => e = .returned (.agg #[.int .i64 (v * p2 K), .int .i64 2]) ∧ Below w.heap.size w w' := by
  obtain ⟨BC, BZ, BN, hb, hz⟩ := three_new w #[.int .i64 v, .int .i64 o] #[.int .i64 0, .int .i64 0] #[.int .i64 v, .int .i64 2] 27 27 27
  have hz0 : w.heap.size + 1 + 1 + 1 ≤ (((w.alloc (.cells #[.int .i64 v, .int .i64 o] 27)).alloc (.cells #[.int .i64 0, .int .i64 0] 27)).alloc (.cells #[.int .i64 v, .int .i64 2] 27)).heap.size := by rw [hz]; omega
  clear hz
  obtain ⟨x0, x1, xf, xl⟩ := BC.two
  obtain ⟨E, hE⟩ : ∃ E, v * p2 K = E := ⟨_, rfl⟩
  rw [hE]
  have HE := Lib.hid hE
  clear hE
  go_enter Try.func56, Try.ntmps56
  go_wp2
  clear x0 x1 xf xl BC
  generalize (((w.alloc (.cells #[.int .i64 v, .int .i64 o] 27)).alloc (.cells #[.int .i64 0, .int .i64 0] 27)).alloc (.cells #[.int .i64 v, .int .i64 2] 27)) = v0 at *
  go_loopg [10] K (fun q i wr => ∃ k : Nat, k ≤ K ∧ q = K - k ∧ i = .int .i64 k ∧ Blk wr (w.heap.size + 1) #[.int .i64 0, .int .i64 0] 27 ∧ Blk wr (w.heap.size + 1 + 1) #[.int .i64 (v * p2 k), .int .i64 2] 27 ∧ Below w.heap.size w wr)
  case atStart => exact ⟨0, Nat.zero_le _, by omega, rfl, BZ, by rw [p2_zero, Int.mul_one]; exact BN, hb⟩
  case round =>
    clear BZ BN hb hz0
    obtain ⟨k, hk, hm, rfl, BZ, BN, hb⟩ := hrel
    obtain ⟨y0, y1, yf, yl⟩ := BN.two
    obtain ⟨z0, z1, zf, zl⟩ := BZ.two
    by_cases hlt : k < K
    · have hlt' : (k : Int) < (K : Int) := by omega
      have hk2 : p2 k ≤ p2 3 := p2_mono (by omega)
      rw [show p2 3 = 8 by decide] at hk2
      have hk1 := p2_pos k
      have hst : v * p2 (k + 1) = v * p2 k * 2 := by rw [p2_succ, Int.mul_comm 2, ← Int.mul_assoc]
      have t0 : 0 ≤ v * p2 k := Int.mul_nonneg (by omega) (by omega)
      have t1 : v * p2 k ≤ 1024 * 8 := Int.mul_le_mul hv.2 hk2 (by omega) (by omega)
      obtain ⟨T, hT⟩ : ∃ T, v * p2 k = T := ⟨_, rfl⟩
      rw [hT] at BN y0 hst t0 t1
      have HST := Lib.hid hst
      clear hst hT hk1 hk2
      go_wp2
      have BNn : Blk (wr.setCell ⟨w.heap.size + 1 + 1, 0, none⟩ (.int .i64 (T * 2))) (w.heap.size + 1 + 1) #[.int .i64 (T * 2), .int .i64 2] 27 := BN.set (i := 0) _
      go_roundg (K - (k + 1))
      case measure => omega
      case rel => exact ⟨k + 1, by omega, rfl, by go_num, BZ.other (by omega), by rw [HST.out]; exact BNn, hb.setCell (by show _ ≤ w.heap.size + 1 + 1; omega) _⟩
    · obtain rfl : k = K := by omega
      rw [HE.out] at BN y0
      go_wp2
      have BZn := (BZ.set (i := 0) (.int .i64 E)).set (i := 1) (.int .i64 2)
      obtain ⟨z0, z1, zf, zl⟩ := BZn.two
      refine bodyPost_ret (v := .agg #[.int .i64 E, .int .i64 2]) (by simp [results, Try.results56, go_sem, z0, z1]) rfl ?_
      exact ⟨rfl, (hb.setCell (by show _ ≤ w.heap.size + 1; omega) _).setCell (by show _ ≤ w.heap.size + 1; omega) _⟩
theorem doublings_any (a : Int) (w : World) :
    Calls Try.prog 57 #[.int .i64 a] w fun e w' => e = .returned (.int .i64 ((dbN a : Nat) : Int)) ∧ w = w' := by
  unfold dbN
  by_cases h1 : a = 1
  · subst h1
    rw [if_pos (.inl rfl)]
    go_enter Try.func57, Try.ntmps57
    go_wp2
    go_ret
    exact ⟨rfl, rfl⟩
  · have f1 : (a == 1) = false := by rw [beq_eq_false_iff_ne]; exact h1
    by_cases h2 : a = 2
    · subst h2
      rw [if_pos (.inr rfl)]
      go_enter Try.func57, Try.ntmps57
      go_wp2
      go_ret
      exact ⟨rfl, rfl⟩
    · have f2 : (a == 2) = false := by rw [beq_eq_false_iff_ne]; exact h2
      rw [if_neg (by omega)]
      clear h1 h2
      by_cases h3 : a = 3
      · subst h3
        rw [if_pos rfl]
        go_enter Try.func57, Try.ntmps57
        go_wp2
        go_ret
        exact ⟨rfl, rfl⟩
      · have f3 : (a == 3) = false := by rw [beq_eq_false_iff_ne]; exact h3
        rw [if_neg h3]
        clear h3
        by_cases h4 : a = 4
        · subst h4
          rw [if_pos rfl]
          go_enter Try.func57, Try.ntmps57
          go_wp2
          go_ret
          exact ⟨rfl, rfl⟩
        · have f4 : (a == 4) = false := by rw [beq_eq_false_iff_ne]; exact h4
          rw [if_neg h4]
          clear h4
          go_enter Try.func57, Try.ntmps57
          go_wp2
          go_ret
          exact ⟨rfl, rfl⟩
end Go.Proofs.Ytkcjbjkccafekaa
