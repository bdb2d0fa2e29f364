/- Contracts of the program and of its model on single rolls, faces and seeds. -/
import Derived.Test.YthoaeaahaflpiaaL01a
import Derived.Test.YthoaeaahaflpiaaBoardLaws
import Derived.Test.YthoaeaahaflpiaaM07
import Derived.Test.YthoaeaahaflpiaaSrcLaws
import Derived.Laws.StructEq
import Derived.Lib.MinMax
import Derived.IntWalk
import Derived.Deep.QuietTactic
namespace Go.Proofs.Ythoaeaahaflpiaa
open Go.ChangeShapes Go.WideShapes Go.ChangeAt Go.RowKit
set_option linter.unusedVariables false
set_option linter.unusedSimpArgs false

theorem isDouble_any (ra rb : Int) (w : World) :
    Calls Try.prog 53 #[.agg #[.int .i64 ra, .int .i64 rb]] w fun e w' => e = .returned (.bool (decide (ra = rb))) ∧ Below w.heap.size w w' := by
  have hb : Below w.heap.size w (w.alloc (.cells #[.int .i64 ra, .int .i64 rb] 45)) := (Below.refl _ _).alloc (Nat.le_refl _) _
  obtain ⟨x0, x1, xf, xl⟩ := (Blk.new w #[.int .i64 ra, .int .i64 rb] 45).two
  by_cases e : ra = rb
  · subst e
    rw [decide_eq_true rfl]
    go_enter Try.func53, Try.ntmps53
    go_wp2
    go_ret
    exact ⟨rfl, hb⟩
  · have f0 : (ra == rb) = false := by rw [beq_eq_false_iff_ne]; exact e
    have f1 : (rb == ra) = false := by rw [beq_eq_false_iff_ne]; exact fun q => e q.symm
    rw [decide_eq_false e]
    go_enter Try.func53, Try.ntmps53
    go_wp2
    go_ret
    exact ⟨rfl, hb⟩
theorem implWeight_any (ra rb : Int) (w : World) :
    Calls Try.prog 33 #[.agg #[.int .i64 ra, .int .i64 rb]] w fun e w' => e = .returned (.int .i64 (if ra = rb then 1 else 2)) ∧ Below w.heap.size w w' := by
  have hb : Below w.heap.size w (w.alloc (.cells #[.int .i64 ra, .int .i64 rb] 45)) := (Below.refl _ _).alloc (Nat.le_refl _) _
  obtain ⟨x0, x1, xf, xl⟩ := (Blk.new w #[.int .i64 ra, .int .i64 rb] 45).two
  have hd := fun W => isDouble_any ra rb W
  by_cases e : ra = rb
  · rw [decide_eq_true e] at hd
    rw [if_pos e]
    have HD := Lib.hid hd
    clear hd e
    go_enter Try.func33, Try.ntmps33
    go_wp2_with (go_at_call 53; refine (HD.out _).mono ?_; rintro e w1 ⟨rfl, hb1⟩)
    go_ret
    exact ⟨rfl, chain hb hb1⟩
  · rw [decide_eq_false e] at hd
    rw [if_neg e]
    have HD := Lib.hid hd
    clear hd e
    go_enter Try.func33, Try.ntmps33
    go_wp2_with (go_at_call 53; refine (HD.out _).mono ?_; rintro e w1 ⟨rfl, hb1⟩)
    go_ret
    exact ⟨rfl, chain hb hb1⟩
theorem rollOfFaces_any (a b : Int) (w : World) :
    Calls Try.prog 80 #[.int .i64 a, .int .i64 b] w fun e w' => e = .returned (.agg #[.int .i64 (prR a b).1, .int .i64 (prR a b).2]) ∧ Below w.heap.size w w' := by
  have BR := Blk.new w #[.int .i64 (max a b), .int .i64 (min a b)] 45
  have hb : Below w.heap.size w (w.alloc (.cells #[.int .i64 (max a b), .int .i64 (min a b)] 45)) := (Below.refl _ _).alloc (Nat.le_refl _) _
  obtain ⟨x0, x1, xf, xl⟩ := BR.two
  rw [prR_A, prR_B]
  go_enter Try.func80, Try.ntmps80
  go_wp2
  refine bodyPost_ret (v := .agg #[.int .i64 (max a b), .int .i64 (min a b)]) (by simp [results, Try.results80, go_sem, x0, x1]) rfl ⟨rfl, hb⟩
end Go.Proofs.Ythoaeaahaflpiaa
