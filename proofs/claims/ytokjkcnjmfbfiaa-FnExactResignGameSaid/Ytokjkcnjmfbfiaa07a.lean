/- Contracts of the program and of its model on single rolls, faces and seeds. -/
import Derived.Test.YtokjkcnjmfbfiaaL01a
import Derived.Test.YtokjkcnjmfbfiaaBoardLaws
import Derived.Test.YtokjkcnjmfbfiaaM07
import Derived.Test.YtokjkcnjmfbfiaaSrcLaws
import Derived.Laws.StructEq
import Derived.Lib.MinMax
import Derived.IntWalk
import Derived.Deep.QuietTactic
namespace Go.Proofs.Ytokjkcnjmfbfiaa
open Go.ChangeShapes Go.WideShapes Go.ChangeAt Go.RowKit
set_option linter.unusedVariables false
set_option linter.unusedSimpArgs false
set_option maxRecDepth 4000

theorem isDouble_any (ra rb : Int) (w : World) :
    Calls Try.prog 127 #[.agg #[.int .i64 ra, .int .i64 rb]] w fun e w' => e = .returned (.bool (decide (ra = rb))) ∧ Below w.heap.size w w' := by
  have hb : Below w.heap.size w (w.alloc (.cells #[.int .i64 ra, .int .i64 rb] 36)) := (Below.refl _ _).alloc (Nat.le_refl _) _
  obtain ⟨x0, x1, xf, xl⟩ := (Blk.new w #[.int .i64 ra, .int .i64 rb] 36).two
  by_cases e : ra = rb
  · subst e
    rw [decide_eq_true rfl]
    go_enter Try.func127, Try.ntmps127
    go_wp2
    go_ret
    exact ⟨rfl, hb⟩
  · have f0 : (ra == rb) = false := by rw [beq_eq_false_iff_ne]; exact e
    have f1 : (rb == ra) = false := by rw [beq_eq_false_iff_ne]; exact fun q => e q.symm
    rw [decide_eq_false e]
    go_enter Try.func127, Try.ntmps127
    go_wp2
    go_ret
    exact ⟨rfl, hb⟩
theorem implWeight_any (ra rb : Int) (w : World) :
    Calls Try.prog 82 #[.agg #[.int .i64 ra, .int .i64 rb]] w fun e w' => e = .returned (.int .i64 (if ra = rb then 1 else 2)) ∧ Below w.heap.size w w' := by
  have hb : Below w.heap.size w (w.alloc (.cells #[.int .i64 ra, .int .i64 rb] 36)) := (Below.refl _ _).alloc (Nat.le_refl _) _
  obtain ⟨x0, x1, xf, xl⟩ := (Blk.new w #[.int .i64 ra, .int .i64 rb] 36).two
  have hd := fun W => isDouble_any ra rb W
  by_cases e : ra = rb
  · rw [decide_eq_true e] at hd
    rw [if_pos e]
    have HD := Lib.hid hd
    clear hd e
    go_enter Try.func82, Try.ntmps82
    go_wp2_with (go_at_call 127; refine (HD.out _).mono ?_; rintro e w1 ⟨rfl, hb1⟩)
    go_ret
    exact ⟨rfl, chain hb hb1⟩
  · rw [decide_eq_false e] at hd
    rw [if_neg e]
    have HD := Lib.hid hd
    clear hd e
    go_enter Try.func82, Try.ntmps82
    go_wp2_with (go_at_call 127; refine (HD.out _).mono ?_; rintro e w1 ⟨rfl, hb1⟩)
    go_ret
    exact ⟨rfl, chain hb hb1⟩
theorem rollOfFaces_any (a b : Int) (w : World) :
    Calls Try.prog 142 #[.int .i64 a, .int .i64 b] w fun e w' => e = .returned (.agg #[.int .i64 (prR a b).1, .int .i64 (prR a b).2]) ∧ Below w.heap.size w w' := by
  have BR := Blk.new w #[.int .i64 (max a b), .int .i64 (min a b)] 36
  have hb : Below w.heap.size w (w.alloc (.cells #[.int .i64 (max a b), .int .i64 (min a b)] 36)) := (Below.refl _ _).alloc (Nat.le_refl _) _
  obtain ⟨x0, x1, xf, xl⟩ := BR.two
  rw [prR_A, prR_B]
  go_enter Try.func142, Try.ntmps142
  go_wp2
  refine bodyPost_ret (v := .agg #[.int .i64 (max a b), .int .i64 (min a b)]) (by simp [results, Try.results142, go_sem, x0, x1]) rfl ⟨rfl, hb⟩
theorem l07Pair_any (a b : Int) (w : World) :
    Calls Try.prog 139 #[.int .i64 a, .int .i64 b] w fun e w' => e = .returned (.agg #[.int .i64 (prR a b).1, .int .i64 (prR a b).2]) ∧ Below w.heap.size w w' := by
  have BR := Blk.new w #[.int .i64 (max a b), .int .i64 (min a b)] 36
  have hb : Below w.heap.size w (w.alloc (.cells #[.int .i64 (max a b), .int .i64 (min a b)] 36)) := (Below.refl _ _).alloc (Nat.le_refl _) _
  obtain ⟨x0, x1, xf, xl⟩ := BR.two
  rw [prR_A, prR_B]
  go_enter Try.func139, Try.ntmps139
  go_wp2
  refine bodyPost_ret (v := .agg #[.int .i64 (max a b), .int .i64 (min a b)]) (by simp [results, Try.results139, go_sem, x0, x1]) rfl ⟨rfl, hb⟩
end Go.Proofs.Ytokjkcnjmfbfiaa
