/- Contracts of the first board's sides, of the program and of its model. -/
import Derived.Test.YtdciiocmddlhfaaOwnB
import Derived.Test.YtdciiocmddlhfaaL01b
import Derived.Test.YtdciiocmddlhfaaM02
import Derived.Test.YtdciiocmddlhfaaVarB
namespace Go.Proofs.Ytdciiocmddlhfaa
open Go.ChangeShapes Go.WideShapes Go.ChangeAt Go.RowKit
set_option linter.unusedVariables false
set_option linter.unusedSimpArgs false
set_option maxRecDepth 4000

/-- One side of the first board. -/
def startL (p c h s : Int) : List Int :=
  if p = 24 ∧ c = 15 ∧ h = 6 ∧ s = 6 then ((((List.replicate 25 (0 : Int)).set 5 5).set 7 3).set 12 5).set 23 2
  else ((List.replicate (p.toNat + 1) (0 : Int)).set (p - 1).toNat (c.tdiv 2)).set (p.tdiv 2 - 1).toNat (c - c.tdiv 2)
theorem startL_length (p c h s : Int) : (startL p c h s).length = p.toNat + 1 := by
  unfold startL
  split
  · rename_i g
    obtain ⟨rfl, _⟩ := g
    simp
  · simp
theorem heldVRow {w W w2 : World} {p c h s : Int} {G : Nat} {L : List Int} (hS : W.cell? ⟨w.heap.size, 0, none⟩ = some (.int .i64 p) ∧ W.cell? ⟨w.heap.size, 1, none⟩ = some (.int .i64 c) ∧ W.cell? ⟨w.heap.size, 2, none⟩ = some (.int .i64 h) ∧ W.cell? ⟨w.heap.size, 3, none⟩ = some (.int .i64 s) ∧ Below w.heap.size w W ∧ w.heap.size < W.heap.size ∧ Row W G L) (hb : Below W.heap.size W w2) : w2.cell? ⟨w.heap.size, 0, none⟩ = some (.int .i64 p) ∧ w2.cell? ⟨w.heap.size, 1, none⟩ = some (.int .i64 c) ∧ w2.cell? ⟨w.heap.size, 2, none⟩ = some (.int .i64 h) ∧ w2.cell? ⟨w.heap.size, 3, none⟩ = some (.int .i64 s) ∧ Below w.heap.size w w2 ∧ w.heap.size < w2.heap.size ∧ Row w2 G L := by
  obtain ⟨h0, h1, h2, h3, h4, h5, h6⟩ := hS
  obtain ⟨hc, _⟩ := bcell hb
  exact ⟨by rw [hc _ _ h5]; exact h0, by rw [hc _ _ h5]; exact h1, by rw [hc _ _ h5]; exact h2, by rw [hc _ _ h5]; exact h3, chain h4 hb, Nat.lt_of_lt_of_le h5 hb.size, h6.below hb⟩
set_option maxHeartbeats 1000000 in
theorem l02Empty_any (P : Nat) (c h s : Int) (w : World) (p1 : P ≤ 24) : Calls Try.prog 15 #[.agg #[.int .i64 (P : Int), .int .i64 c, .int .i64 h, .int .i64 s]] w (Copied (List.replicate (P + 1) 0) w) := by
  obtain ⟨i0, hi, hz0, hz1, hz2⟩ := info_parts infoI64
  have hb : Below w.heap.size w (w.alloc (.cells #[.int .i64 (P : Int), .int .i64 c, .int .i64 h, .int .i64 s] 29)) := (Below.refl _ _).alloc (Nat.le_refl _) _
  obtain ⟨x0, x1, x2, x3, xf, xl⟩ := (Blk.new w #[.int .i64 (P : Int), .int .i64 c, .int .i64 h, .int .i64 s] 29).four
  go_enter Try.func15, Try.ntmps15
  go_wp2_with (at_make; refine wpList_make_row _ rfl _ _ 24 rfl 2 i0 (.int .i64 0) Try.underlying24 hi hz0 hz1 rfl .i64 .i64 (P + 1) (by rfl) (by rfl) (by rw [hz2]; omega) (by omega) ?_)
  have hR := made_row (w.alloc (.cells #[.int .i64 (P : Int), .int .i64 c, .int .i64 h, .int .i64 s] 29)) (P + 1)
  have hsz : (w.alloc (.cells #[.int .i64 (P : Int), .int .i64 c, .int .i64 h, .int .i64 s] 29)).heap.size = w.heap.size + 1 := by simp
  rw [hsz] at hR
  go_wp2
  go_ret
  exact ⟨w.heap.size + 1, by simp, by omega, hR, chain_alloc hb _⟩
end Go.Proofs.Ytdciiocmddlhfaa
