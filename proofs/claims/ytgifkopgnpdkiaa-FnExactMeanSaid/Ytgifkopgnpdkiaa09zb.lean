/- All rolls of the model, and the last step of its mean. -/
import Derived.Test.Ytgifkopgnpdkiaa09za
namespace Go.Proofs.Ytgifkopgnpdkiaa
open Go.ChangeShapes Go.WideShapes Go.ChangeAt Go.RowKit
set_option linter.unusedVariables false
set_option linter.unusedSimpArgs false

theorem mean_last {S D : Nat} {n : Int} (hS : 1 ≤ S ∧ S ≤ 6) (h : xvB S n (D : Int) = true) :
    rdX S n (D + 1) = if n.tmod ((S * S : Nat) : Int) = 0 then some (n.tdiv ((S * S : Nat) : Int), 0) else if xvB S n ((D + 1 : Nat) : Int) = true then some (n, ((D + 1 : Nat) : Int)) else none := by
  have hB := base_range hS
  have hn := nn_range hS
  unfold xvB at h ⊢
  simp only [decide_eq_true_eq] at h ⊢
  obtain ⟨h1, h2, h3, h4, h5⟩ := h
  unfold rdX
  obtain ⟨B, hBe⟩ : ∃ B, S * S = B := ⟨_, rfl⟩
  rw [hBe] at hB h5 ⊢
  have key : n.tmod (B : Int) = 0 ↔ n.natAbs % B = 0 := by
    rw [← Int.dvd_iff_tmod_eq_zero, ← Int.dvd_natAbs, Int.natCast_dvd_natCast, Nat.dvd_iff_mod_eq_zero]
  have key2 : n % (B : Int) = 0 ↔ n.natAbs % B = 0 := by
    rw [← Int.dvd_iff_emod_eq_zero, ← Int.dvd_natAbs, Int.natCast_dvd_natCast, Nat.dvd_iff_mod_eq_zero]
  by_cases c : n.natAbs % B = 0
  · rw [if_pos (key.2 c)]
    have hD : D = 0 := by
      rcases h5 with h5 | h5
      · omega
      · exact absurd (key2.2 c) h5
    subst hD
    rw [rdN_go c]
    have hle : n.natAbs / B ≤ n.natAbs := Nat.div_le_self _ _
    rw [show rdN B (n.natAbs / B) 0 = (n.natAbs / B, 0) from rfl]
    dsimp only
    rw [if_pos ⟨by omega, by omega⟩]
    congr 2
    unfold sgI
    split
    · have e : n = -((n.natAbs : Nat) : Int) := by omega
      conv => rhs; rw [e, Int.neg_tdiv]
      rfl
    · have e : n = ((n.natAbs : Nat) : Int) := by omega
      conv => rhs; rw [e]
      rfl
  · rw [if_neg (fun q => c (key.1 q)), rdN_stop c]
    dsimp only
    have e : sgI n n.natAbs = n := by unfold sgI; split <;> omega
    rw [e]
    by_cases q : D + 1 < nn S
    · rw [if_pos ⟨q, by omega⟩, if_pos ⟨by omega, by omega, h3, h4, .inr (fun z => c (key2.1 z))⟩]
    · rw [if_neg (fun z => q z.1), if_neg (fun z => q (by omega))]
set_option maxRecDepth 8000 in
set_option maxHeartbeats 1000000 in
theorem l09Rolls_any (p c h : Int) (S : Nat) (w : World) (hS : S ≤ 6) :
    Calls Try.prog 55 #[.agg #[.int .i64 p, .int .i64 c, .int .i64 h, .int .i64 (S : Int)]] w (RollsGot (rollsTo S) w) := by
  have BV := Blk.new w #[.int .i64 p, .int .i64 c, .int .i64 h, .int .i64 (S : Int)] 27
  have hb : Below w.heap.size w (w.alloc (.cells #[.int .i64 p, .int .i64 c, .int .i64 h, .int .i64 (S : Int)] 27)) := (Below.refl _ _).alloc (Nat.le_refl _) _
  have hz0 : (w.alloc (.cells #[.int .i64 p, .int .i64 c, .int .i64 h, .int .i64 (S : Int)] 27)).heap.size = w.heap.size + 1 := by simp
  go_enter Try.func55, Try.ntmps55
  go_wp2_with fail
  generalize (w.alloc (.cells #[.int .i64 p, .int .i64 c, .int .i64 h, .int .i64 (S : Int)] 27)) = v0 at *
  have HZ0 := Lib.hid hz0
  have hz0a : w.heap.size + 1 ≤ v0.heap.size := by omega
  clear hz0
  go_loopg [3, 4, 5] S (fun m q3 q4 q5 wr => ∃ a : Nat, a ≤ S ∧ m = S - a ∧ q4 = .int .i64 ((a : Int) + 1) ∧ OwnR wr v0.heap.size q3 (rollsTo a) ∧ Below v0.heap.size v0 wr)
  case atStart => exact ⟨0, by omega, by omega, rfl, by have q := OwnR.start v0; rw [HZ0.out] at q ⊢; exact q, (Below.refl _ _).alloc (Nat.le_refl _) _⟩
  case round =>
    obtain ⟨a, ha, hm, rfl, hO, hbel⟩ := hrel
    obtain ⟨x0, x1, x2, x3, xf, xl⟩ := (BV.below hbel).four
    by_cases hlt : a < S
    · have hlt' : (a : Int) + 1 ≤ (S : Int) := by omega
      have ha6 : (a : Int) ≤ 6 := by omega
      go_wp2_with fail
      clear x0 x1 x2 x3 xf xl
      rw [← rowTo_zero] at hO
      go_loopg [3, 5] (a + 1) (fun m q3 q5 wr => ∃ j : Nat, j ≤ a + 1 ∧ m = a + 1 - j ∧ q5 = .int .i64 ((j : Int) + 1) ∧ OwnR wr v0.heap.size q3 (rowTo a j) ∧ Below v0.heap.size v0 wr)
      case atStart => exact ⟨0, by omega, by omega, rfl, hO, hbel⟩
      case round =>
        clear hO hbel
        obtain ⟨j, hj, hm2, rfl, hO, hbel⟩ := hrel
        have hle := rowTo_length a j
        have hle2 : a * a ≤ 6 * 6 := Nat.mul_le_mul (by omega) (by omega)
        by_cases hlj : j < a + 1
        · have hlj' : (j : Int) + 1 ≤ (a : Int) + 1 := by omega
          have hrs := rowTo_succ a j
          have hLl : (rowTo a j).length ≤ 1048576 := by omega
          obtain ⟨LL, hLL⟩ : ∃ z, rowTo a j = z := ⟨_, rfl⟩
          rw [hLL] at hO hrs hLl
          have HRS := Lib.hid hrs
          have hsz := hbel.size
          clear hrs hLL hle hle2
          go_wp2_with (at_builtin; go_loud (refine wp_pushR rfl _ _ rfl v0.heap.size _ LL rfl hO ((a : Int) + 1, (j : Int) + 1) rfl rfl hLl hsz ?_; intro v2 w6 hO2 hb6))
          go_roundg (a + 1 - (j + 1))
          case measure => omega
          case rel => exact ⟨j + 1, by omega, rfl, by go_num, by rw [HRS.out]; exact hO2, hbel.trans hb6⟩
        · obtain rfl : j = a + 1 := by omega
          rw [rowTo_full] at hO
          clear hle hle2
          go_wp2
          go_roundg (S - (a + 1))
          case measure => omega
          case rel => exact ⟨a + 1, by omega, rfl, by go_num, hO, hbel⟩
    · obtain rfl : a = S := by omega
      have hlt' : (a : Int) < (a : Int) + 1 := by omega
      obtain ⟨LL, hLL⟩ : ∃ z, rollsTo a = z := ⟨_, rfl⟩
      rw [hLL] at hO
      have HLL := Lib.hid hLL
      clear hLL
      obtain ⟨aR, kR, rfl⟩ := hO.form
      go_wp2
      go_ret
      exact ⟨aR, kR, by rw [HLL.out]; rfl, by rw [HLL.out]; exact hO.orl.mono hb.size (Nat.le_refl _), hb.trans (hbel.mono hb.size)⟩
end Go.Proofs.Ytgifkopgnpdkiaa
