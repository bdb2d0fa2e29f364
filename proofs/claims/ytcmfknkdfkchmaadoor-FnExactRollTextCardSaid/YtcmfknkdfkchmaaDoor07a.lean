/- Contracts of the program and of its model on single rolls, faces and seeds. -/
import Derived.Test.YtcmfknkdfkchmaaDoorL01a
import Derived.Test.YtcmfknkdfkchmaaDoorBoardLaws
import Derived.Test.YtcmfknkdfkchmaaDoorM07
import Derived.Test.YtcmfknkdfkchmaaDoorSrcLaws
import Derived.Laws.StructEq
import Derived.Lib.MinMax
import Derived.IntWalk
import Derived.Deep.QuietTactic
namespace Go.Proofs.YtcmfknkdfkchmaaDoor
open Go.ChangeShapes Go.WideShapes Go.ChangeAt Go.RowKit
set_option linter.unusedVariables false
set_option linter.unusedSimpArgs false

theorem rollOfFaces_any (a b : Int) (w : World) :
    Calls Tryd.prog 16 #[.int .i64 a, .int .i64 b] w fun e w' => e = .returned (.agg #[.int .i64 (prR a b).1, .int .i64 (prR a b).2]) ∧ Below w.heap.size w w' := by
  have BR := Blk.new w #[.int .i64 (max a b), .int .i64 (min a b)] 29
  have hb : Below w.heap.size w (w.alloc (.cells #[.int .i64 (max a b), .int .i64 (min a b)] 29)) := (Below.refl _ _).alloc (Nat.le_refl _) _
  obtain ⟨x0, x1, xf, xl⟩ := BR.two
  rw [prR_A, prR_B]
  go_enter Tryd.func16, Tryd.ntmps16
  go_wp2
  refine bodyPost_ret (v := .agg #[.int .i64 (max a b), .int .i64 (min a b)]) (by simp [results, Tryd.results16, go_sem, x0, x1]) rfl ⟨rfl, hb⟩
end Go.Proofs.YtcmfknkdfkchmaaDoor
