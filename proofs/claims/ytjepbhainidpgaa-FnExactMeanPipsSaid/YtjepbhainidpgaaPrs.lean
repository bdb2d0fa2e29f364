/- Contract of the program's pairs of faces. -/
import Derived.Test.Ytjepbhainidpgaa07a
import Derived.Test.YtjepbhainidpgaaM07
import Derived.Test.YtjepbhainidpgaaOwnS
namespace Go.Proofs.Ytjepbhainidpgaa
open Go.ChangeShapes Go.WideShapes Go.ChangeAt Go.RowKit
set_option linter.unusedVariables false
set_option linter.unusedSimpArgs false
set_option maxRecDepth 4000

theorem OwnR.kept {w w' : World} {base : Nat} {v : Value} {l : List Rl} (h : OwnR w base v l) (hb : Below w.heap.size w w') : OwnR w' base v l :=
  World.ownsRow.kept (row := none) h ⟨hb.os, hb.tape, hb.output, hb.size, fun k hk _ => hb.block k hk⟩ (by
    cases hv : v.ownBlock with
    | none => exact .inl rfl
    | some g => exact .inr (by simp))
set_option maxRecDepth 8000 in
set_option maxHeartbeats 1000000 in
theorem pairs_any (p c h : Int) (S : Nat) (w : World) (hS : S ≤ 6) :
    Calls Try.prog 58 #[.agg #[.int .i64 p, .int .i64 c, .int .i64 h, .int .i64 (S : Int)]] w (RollsGot (prs S) w) := by
  have BV := Blk.new w #[.int .i64 p, .int .i64 c, .int .i64 h, .int .i64 (S : Int)] 26
  have hb : Below w.heap.size w (w.alloc (.cells #[.int .i64 p, .int .i64 c, .int .i64 h, .int .i64 (S : Int)] 26)) := (Below.refl _ _).alloc (Nat.le_refl _) _
  have hz0 : (w.alloc (.cells #[.int .i64 p, .int .i64 c, .int .i64 h, .int .i64 (S : Int)] 26)).heap.size = w.heap.size + 1 := by simp
  go_enter Try.func58, Try.ntmps58
  go_wp2_with fail
  generalize (w.alloc (.cells #[.int .i64 p, .int .i64 c, .int .i64 h, .int .i64 (S : Int)] 26)) = v0 at *
  have HZ0 := Lib.hid hz0
  have hz0a : w.heap.size + 1 ≤ v0.heap.size := by omega
  clear hz0
  go_loopg [3, 4, 5] S (fun m q3 q4 q5 wr => ∃ a : Nat, a ≤ S ∧ m = S - a ∧ q4 = .int .i64 ((a : Int) + 1) ∧ OwnR wr v0.heap.size q3 (prsTo S a) ∧ Below v0.heap.size v0 wr)
  case atStart => exact ⟨0, by omega, by omega, rfl, OwnR.nil v0 _, Below.refl _ _⟩
  case round =>
    obtain ⟨a, ha, hm, rfl, hO, hbel⟩ := hrel
    obtain ⟨x0, x1, x2, x3, xf, xl⟩ := (BV.below hbel).four
    by_cases hlt : a < S
    · have hlt' : (a : Int) + 1 ≤ (S : Int) := by omega
      have ha6 : (a : Int) ≤ 6 := by omega
      go_wp2_with fail
      clear x0 x1 x2 x3 xf xl
      rw [← prsRow_zero] at hO
      go_loopg [3, 5] S (fun m q3 q5 wr => ∃ j : Nat, j ≤ S ∧ m = S - j ∧ q5 = .int .i64 ((j : Int) + 1) ∧ OwnR wr v0.heap.size q3 (prsRow S a j) ∧ Below v0.heap.size v0 wr)
      case atStart => exact ⟨0, by omega, by omega, rfl, hO, hbel⟩
      case round =>
        clear hO hbel
        obtain ⟨j, hj, hm2, rfl, hO, hbel⟩ := hrel
        obtain ⟨x0, x1, x2, x3, xf, xl⟩ := (BV.below hbel).four
        have hle := prsRow_length S a j
        have hle2 : a * S ≤ 6 * 6 := Nat.mul_le_mul (by omega) (by omega)
        by_cases hlj : j < S
        · have hlj' : (j : Int) + 1 ≤ (S : Int) := by omega
          have hj6 : (j : Int) ≤ 6 := by omega
          have hrs := prsRow_succ S a j
          have hLl : (prsRow S a j).length ≤ 1048576 := by omega
          obtain ⟨LL, hLL⟩ : ∃ z, prsRow S a j = z := ⟨_, rfl⟩
          have hro := fun W => rollOfFaces_any ((a : Int) + 1) ((j : Int) + 1) W
          obtain ⟨⟨fa, fb⟩, hF⟩ : ∃ r, prR ((a : Int) + 1) ((j : Int) + 1) = r := ⟨_, rfl⟩
          rw [hF] at hro hrs
          dsimp only at hro
          rw [hLL] at hO hrs hLl
          have HRS := Lib.hid hrs
          have HRO := Lib.hid hro
          clear hrs hLL hle hle2 hro hF
          go_wp2_with (first | (go_at_call 83; refine (HRO.out _).mono ?_; clear HRO; rintro e w5 ⟨rfl, hb5⟩; replace hO := hO.kept hb5; have hbe2 := hbel.trans (hb5.mono hbel.size); have hsz := hbe2.size) | (at_builtin; go_loud (refine wp_pushR rfl _ _ rfl v0.heap.size _ LL rfl hO (fa, fb) rfl (by first | rfl | simp) hLl hsz ?_; intro v2 w6 hO2 hb6)))
          go_roundg (S - (j + 1))
          case measure => omega
          case rel => exact ⟨j + 1, by omega, rfl, by go_num, by rw [HRS.out]; exact hO2, hbe2.trans hb6⟩
        · obtain rfl : j = S := by omega
          rw [prsRow_full] at hO
          clear hle hle2
          go_wp2
          go_roundg (j - (a + 1))
          case measure => omega
          case rel => exact ⟨a + 1, by omega, rfl, by go_num, hO, hbel⟩
    · obtain rfl : a = S := by omega
      have hlt' : (a : Int) < (a : Int) + 1 := by omega
      obtain ⟨LL, hLL⟩ : ∃ z, prsTo a a = z := ⟨_, rfl⟩
      rw [hLL] at hO
      have HLL := Lib.hid hLL
      clear hLL
      obtain ⟨aR, kR, rfl⟩ := hO.form
      go_wp2
      go_ret
      exact ⟨aR, kR, by unfold prs; rw [HLL.out]; rfl, by unfold prs; rw [HLL.out]; exact hO.orl.mono hb.size (Nat.le_refl _), hb.trans (hbel.mono hb.size)⟩
end Go.Proofs.Ytjepbhainidpgaa
