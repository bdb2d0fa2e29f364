/- slices.Grow at the nil slice of numbers, from its code: an empty row of its own with room. -/
import Derived.Test.YtdciiocmddlhfaaOwnS
import Derived.Test.YtdciiocmddlhfaaI64
import Derived.Test.YtdciiocmddlhfaaOwn
import Derived.Lib.AppendZerosOnto
namespace Go.Proofs.Ytdciiocmddlhfaa
open Go.ChangeShapes Go.WideShapes Go.ChangeAt Go.RowKit
set_option linter.unusedVariables false
set_option linter.unusedSimpArgs false
set_option maxRecDepth 4000

/-- An empty row of one's own with room. -/
theorem Own.room0 {w : World} {g cap : Nat} {cur : Array Value} {base : Nat} (hb : base ≤ g) (hB : Blk w g cur 2) (hs : cur.size = cap) (hm : cap ≤ 9223372036854775807) : Own w base (.slice (some ⟨g, 0, none⟩) 0 cap) [] :=
  ⟨rfl, .inr ⟨g, cap, cur, rfl, hb, hB, Nat.zero_le _, by unfold maxLen; omega, by omega, by simp [ints]⟩⟩
set_option maxRecDepth 8000 in
set_option maxHeartbeats 2000000 in
theorem grow0_any (n : Nat) (h0 : 0 < n) (hn : n ≤ 1048576) (w : World) :
    Calls Try.prog 30 #[.slice none 0 0, .int .i64 n] w fun e w' => ∃ k, e = .returned (.slice (some ⟨w.heap.size, 0, none⟩) 0 k) ∧ Own w' w.heap.size (.slice (some ⟨w.heap.size, 0, none⟩) 0 k) [] ∧ Below w.heap.size w w' ∧ w'.heap.size = w.heap.size + 1 := by
  obtain ⟨i0, hi, hz0, hz1, hz2⟩ := info_parts infoI64
  have hrz : ∀ ty, (Builtin.append_ #[24, 3] ty #[.slice none 0 0, .int .i64 (n : Int)]).run Try.prog w =
      .ok (.slice (some ⟨w.heap.size, 0, none⟩) n (grownCap w n 0 2)) (w.drew.alloc (.cells (#[] ++ Builtin.zeroCells (Value.int .i64 0).cells n ++ Builtin.zeroCells (Value.int .i64 0).cells (grownCap w n 0 2 - n)) 2)) := fun ty => by
    have h := Lib.run_append_grow_zeros (P := Try.prog) w 24 3 ty 2 i0 (.int .i64 0) .i64 .i64 Try.underlying24 Try.underlying3 hi hz0 none 0 0 [] (run_firstCells_none w.drew i0.size 0 0 0) n h0 (by omega) (by omega) (by omega)
      (by rw [hz2]; omega) (growslice_fits (by omega) (by rw [hz2]; omega))
    simpa using h
  have hGn : n ≤ grownCap w n 0 2 := grownCap_ge w _ _ _
  have hG63 : grownCap w n 0 2 ≤ 9223372036854775807 := by
    have := grownCap_le_maxLen w n 0 2 (by unfold maxLen; omega)
    unfold maxLen at this
    omega
  obtain ⟨G, hG⟩ : ∃ G, grownCap w n 0 2 = G := ⟨_, rfl⟩
  rw [hG] at hrz hGn hG63
  clear hG
  have h1 : ¬ ((n : Int) < 0) := by omega
  have h4 : (n : Int) > 0 := by omega
  go_enter Try.func30, Try.ntmps30
  go_wp2_with (at_builtin; refine Lib.wpList_append_run _ rfl _ _ _ _ rfl _ _ rfl rfl _ _ (hrz _) ?_)
  all_goals
    go_ret
    refine ⟨G, rfl, Own.room0 (Nat.le_refl _) (Blk.new w.drew _ _) ?_ hG63, ((Below.refl _ _).drew).alloc (Nat.le_refl _) _, by simp⟩
    simp [size_zeroCells]
    omega
end Go.Proofs.Ytdciiocmddlhfaa
