/- Contracts of the program's IsCubeRules and IsCube. -/
import Derived.Test.Ytkcjbjkccafekaa16d
namespace Go.Proofs.Ytkcjbjkccafekaa
open Go.ChangeShapes Go.WideShapes Go.ChangeAt Go.RowKit
set_option linter.unusedVariables false
set_option linter.unusedSimpArgs false
set_option maxRecDepth 4000

theorem isCubeRules_any (m : Int) (be ja : Bool) (w : World) :
    Calls Try.prog 26 #[.agg #[.int .i64 m, .bool be, .bool ja]] w fun e w' => e = .returned (.bool (pwB m)) ∧ Below w.heap.size w w' := by
  have hv := fun W => valid16_any m be ja W
  have hb : Below w.heap.size w (w.alloc (.cells #[.int .i64 m, .bool be, .bool ja] 25)) := (Below.refl _ _).alloc (Nat.le_refl _) _
  obtain ⟨x0, x1, x2, xf, xl⟩ := (Blk.new w #[.int .i64 m, .bool be, .bool ja] 25).t3
  have HV := Lib.hid hv
  clear hv
  go_enter Try.func26, Try.ntmps26
  go_wp2_with (go_at_call 49; refine (HV.out _).mono ?_; rintro e w1 ⟨rfl, hb1⟩)
  go_ret
  exact ⟨rfl, chain hb hb1⟩
theorem isCube_any (m v o : Int) (be ja : Bool) (w : World) :
    Calls Try.prog 18 #[.agg #[.int .i64 m, .bool be, .bool ja], .agg #[.int .i64 v, .int .i64 o]] w fun e w' => e = .returned (.bool (cbB m v o)) ∧ Below w.heap.size w w' := by
  have hc := fun W => hasCube_any m v o be ja W
  obtain ⟨BR, BC, hb, hz⟩ := two_new w #[.int .i64 m, .bool be, .bool ja] #[.int .i64 v, .int .i64 o] 25 27
  clear hz
  obtain ⟨x0, x1, x2, xf, xl⟩ := BR.t3
  obtain ⟨u0, u1, uf, ul⟩ := BC.two
  have HC := Lib.hid hc
  clear hc
  go_enter Try.func18, Try.ntmps18
  go_wp2_with (go_at_call 37; refine (HC.out _).mono ?_; rintro e w1 ⟨rfl, hb1⟩)
  go_ret
  exact ⟨rfl, chain hb hb1⟩
end Go.Proofs.Ytkcjbjkccafekaa
