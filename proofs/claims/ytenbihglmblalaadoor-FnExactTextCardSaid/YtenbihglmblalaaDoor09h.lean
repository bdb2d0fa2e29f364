/- Contracts of IsExact, of the program and of its model. -/
import Derived.Test.YtenbihglmblalaaDoor09g
import Derived.Test.YtenbihglmblalaaDoorOwnB
import Derived.BigQuiet
import Derived.Deep.QuietTactic
namespace Go.Proofs.YtenbihglmblalaaDoor
open Go.ChangeShapes Go.WideShapes Go.ChangeAt Go.RowKit
set_option linter.unusedVariables false
set_option linter.unusedSimpArgs false
set_option maxRecDepth 4000

/-- A variant and a number are valid. -/
def exB (p c h s n d : Int) : Bool := vB p c h s && xvB s.toNat n d
theorem sfC_one (p c h s n d : Int) : (sfC p c h s [(n, d)] == 0) = exB p c h s n d := by
  unfold sfC exB
  cases vB p c h s
  · rfl
  · cases hx : xvB s.toNat n d <;> simp [hx]
set_option maxRecDepth 8000 in
set_option maxHeartbeats 1000000 in
theorem implIsExact_any (p c h s xn xd : Int) (hxd : -9223372036854775808 ≤ xd ∧ xd ≤ 9223372036854775807) (w : World) :
    Calls Tryd.prog 8 #[.agg #[.int .i64 p, .int .i64 c, .int .i64 h, .int .i64 s], .agg #[.int .i64 xn, .int .i64 xd]] w fun e w' => e = .returned (.bool (exB p c h s xn xd)) ∧ Below w.heap.size w w' := by
  obtain ⟨BV, BX, hb, hz⟩ := two_new w #[.int .i64 p, .int .i64 c, .int .i64 h, .int .i64 s] #[.int .i64 xn, .int .i64 xd] 25 27
  have hsf : ∀ (g : Nat) (W : World), Blk W g #[.int .i64 xn, .int .i64 xd] 27 → Calls Tryd.prog 15 #[.agg #[.int .i64 p, .int .i64 c, .int .i64 h, .int .i64 s], .slice (some ⟨g, 0, none⟩) 1 1] W (ScGot s (sfC p c h s [(xn, xd)]) W) := fun g W B => scalesFor_any p c h s (some ⟨g, 0, none⟩) [(xn, xd)] 1 W (by simp) (OX.one B) (by simpa using hxd)
  rw [← sfC_one]
  obtain ⟨r, hr⟩ : ∃ r, sfC p c h s [(xn, xd)] = r := ⟨_, rfl⟩
  rw [hr] at hsf ⊢
  have HSF := Lib.hid hsf
  obtain ⟨x0, x1, x2, x3, xf, xl⟩ := BV.four
  obtain ⟨z0, z1, zf, zl⟩ := BX.two
  clear hsf hr hxd
  go_enter Tryd.func8, Tryd.ntmps8
  go_wp2_with fail
  clear x0 x1 x2 x3 xf xl z0 z1 zf zl
  generalize ((w.alloc (.cells #[.int .i64 p, .int .i64 c, .int .i64 h, .int .i64 s] 25)).alloc (.cells #[.int .i64 xn, .int .i64 xd] 27)) = v0 at *
  have BL := Blk.new v0 #[.int .i64 xn, .int .i64 xd] 27
  rw [hz] at BL
  refine (HSF.out _ _ BL).mono ?_
  rintro e w1 ⟨mv, rfl, -, -, hb1⟩
  go_wp2
  go_ret
  exact ⟨rfl, chain (chain_alloc hb _) hb1⟩
theorem l09Base_any (p c h : Int) (S : Nat) (hS : S ≤ 6) (w : World) :
    Calls Tryd.prog 37 #[.agg #[.int .i64 p, .int .i64 c, .int .i64 h, .int .i64 (S : Int)]] w fun e w' => e = .returned (.int .i64 ((S * S : Nat) : Int)) ∧ Below w.heap.size w w' := by
  have BV := Blk.new w #[.int .i64 p, .int .i64 c, .int .i64 h, .int .i64 (S : Int)] 25
  have hb : Below w.heap.size w (w.alloc (.cells #[.int .i64 p, .int .i64 c, .int .i64 h, .int .i64 (S : Int)] 25)) := (Below.refl _ _).alloc (Nat.le_refl _) _
  have hle : S * S ≤ 6 * 6 := Nat.mul_le_mul hS hS
  obtain ⟨B, wB, hB⟩ : ∃ B : Int, IntKind.i64.wrap ((S : Int) * (S : Int)) = B ∧ ((S * S : Nat) : Int) = B := by
    refine ⟨((S * S : Nat) : Int), ?_, rfl⟩
    rw [← Int.natCast_mul]
    exact IntWalk.i64_in _ (by omega)
  rw [hB]
  obtain ⟨x0, x1, x2, x3, xf, xl⟩ := BV.four
  clear hle hS hB
  go_enter Tryd.func37, Tryd.ntmps37
  go_wp2
  go_ret
  exact ⟨rfl, hb⟩
end Go.Proofs.YtenbihglmblalaaDoor
