/- The map of the scales of a variant: what it reads as, and the laws of its look-ups. -/
import Derived.Test.YtgohipfaojiilaaM09
import Derived.Test.YtgohipfaojiilaaStp
import Derived.Test.YtgohipfaojiilaaSrcLaws
import Derived.Maps.OwnSet
import Derived.Maps.OwnOps
import Derived.Maps.RangeWalk
namespace Go.Proofs.Ytgohipfaojiilaa
open Go.ChangeShapes Go.WideShapes Go.ChangeAt Go.RowKit
set_option linter.unusedVariables false
set_option linter.unusedSimpArgs false
set_option maxRecDepth 4000

open Go.Maps (Keyed)
theorem scZero (w : World) : (zeroValue 2).run Try.prog w = .ok (.int .i64 0) w := by kernel_rfl
theorem scKey : Keyed Try.prog 2 := Maps.int_keyed Try.underlying2
theorem scMap : Try.prog.underlying 72 = some (.map 2 2) := Try.underlying72
theorem scWf {x : Int} (h : -9223372036854775808 ≤ x ∧ x ≤ 9223372036854775807) : (Lit.int .i64 x).wf = true := by
  simp [Lit.wf, IntKind.min, IntKind.max, IntKind.signed, IntKind.bits]; omega
theorem scKeyOf {j : Int} (h : -9223372036854775808 ≤ j ∧ j ≤ 9223372036854775807) : keyOf Try.prog 2 (.int .i64 j) = some (.int .i64 j) :=
  Maps.keyOf_int_mk Try.underlying2 (scWf h)
/-- The scales of the depths below n. -/
def scD (S : Nat) : Nat → DataW Unit
  | 0 => .map []
  | n + 1 => (scD S n).put (.int .i64 (n : Int)) (.lit (.int .i64 (scN S n : Int)))
theorem scD_map (S : Nat) : ∀ n, Maps.IsMap (scD S n)
  | 0 => ⟨[], rfl⟩
  | n + 1 => Maps.IsMap.put (scD_map S n) _ _
theorem scLit (j : Int) : WideAt.IsKeyLit (.int .i64 j) := trivial
/-- The scale of a depth, 0 where there is none. -/
def scA (S n : Nat) (j : Int) : Int := if 0 ≤ j ∧ j < n then (scN S j.toNat : Int) else 0
theorem scD_at (S : Nat) : ∀ (n : Nat) (j : Int), (scD S n).atKey (.int .i64 j) (.lit (.int .i64 0)) = .lit (.int .i64 (scA S n j))
  | 0, j => by
    unfold scA
    rw [if_neg (by omega)]
    rfl
  | n + 1, j => by
    rw [scD]
    by_cases h : j = n
    · subst h
      rw [Maps.atKey_put_same (scD_map S n) (scLit _)]
      unfold scA
      rw [if_pos (by omega), Int.toNat_natCast]
    · rw [Maps.atKey_put_other (by simpa using h), scD_at S n j]
      unfold scA
      by_cases g : 0 ≤ j ∧ j < n
      · rw [if_pos g, if_pos (by omega)]
      · rw [if_neg g, if_neg (by omega)]
theorem scD_has (S : Nat) : ∀ (n : Nat) (j : Int), Maps.has (scD S n) (.int .i64 j) = decide (0 ≤ j ∧ j < n)
  | 0, j => by
    rw [decide_eq_false (by omega)]
    rfl
  | n + 1, j => by
    rw [scD]
    by_cases h : j = n
    · subst h
      rw [Maps.has_put_same (scD_map S n) (scLit _), decide_eq_true (by omega)]
    · rw [Maps.has_put_other (by simpa using h), scD_has S n j]
      by_cases g : 0 ≤ j ∧ j < n
      · rw [decide_eq_true g, decide_eq_true (by omega)]
      · rw [decide_eq_false g, decide_eq_false (by omega)]
/-- A block is a map of the scales of the depths below n. -/
def ScM (w : World) (b S n : Nat) : Prop := w.ownsMap Try.prog 2 (plainElem (H := Unit) Try.prog 2) b n (scD S n)
theorem ScM.below {w w' : World} {b S n : Nat} (h : ScM w b S n) (hb : Below w.heap.size w w') : ScM w' b S n :=
  World.ownsMap.kept (row := none) h ⟨hb.os, hb.tape, hb.output, hb.size, fun k hk _ => hb.block k hk⟩ (by simp)
theorem ScM.drew {w : World} {b S n : Nat} (h : ScM w b S n) : ScM w.drew b S n := h
theorem ScM.alloc {w : World} {b S n : Nat} (h : ScM w b S n) (o : Obj) : ScM (w.alloc o) b S n := World.ownsMap.alloc h o
theorem ScM.lt {w : World} {b S n : Nat} (h : ScM w b S n) : b < w.heap.size := World.ownsMap.lt h
theorem ScM.made (w : World) (S : Nat) : ScM (w.alloc (.map #[] 0)) w.heap.size S 0 := World.ownsMap_made w _ _ _
section
variable {ops : Array Oper} {rest : List Oper} {o : Oper} {a : Act} {Q : Exit → Act → World → Prop}
theorem wp_scale (w : World) (hg : o.guard = none) (m x : Operand) (hop : o.op = Op.lookup 72 m x false) (b S n : Nat) (hm : a.eval m = .map (some b)) (h : ScM w b S n)
    (j : Int) (hx : a.eval x = .int .i64 j) (hj : -9223372036854775808 ≤ j ∧ j ≤ 9223372036854775807) (hK : wpList Try.prog ops Q rest (a.put o.dst (.int .i64 (scA S n j))) w) :
    wpList Try.prog ops Q (o :: rest) a w := by
  refine wpList_lookup_own_int w hg m x 72 hop 2 2 .i64 scKey scMap Try.underlying2 (scZero w) b n (scD S n) hm h _ _ hx (scKeyOf hj) ?_
  intro c hat _
  rw [scD_at] at hat
  have e : scA S n j = c := by simpa using hat
  rw [← e]
  exact hK
theorem wp_depth (w : World) (hg : o.guard = none) (m x : Operand) (hop : o.op = Op.lookup 72 m x true) (b S n : Nat) (hm : a.eval m = .map (some b)) (h : ScM w b S n)
    (j : Int) (hx : a.eval x = .int .i64 j) (hj : -9223372036854775808 ≤ j ∧ j ≤ 9223372036854775807) (hK : wpList Try.prog ops Q rest (a.put o.dst (.tuple #[.int .i64 (scA S n j), .bool (decide (0 ≤ j ∧ j < n))])) w) :
    wpList Try.prog ops Q (o :: rest) a w := by
  refine wpList_lookup_own_ok_int w hg m x 72 hop 2 2 .i64 scKey scMap Try.underlying2 (scZero w) b n (scD S n) hm h _ _ hx (scKeyOf hj) ?_
  intro c hat _
  rw [scD_at] at hat
  have e : scA S n j = c := by simpa using hat
  rw [← e, scD_has]
  exact hK
end
theorem ScM.put {w : World} {b S n : Nat} (h : ScM w b S n) (hn : n ≤ 61) (hs : scN S n ≤ 1000000000000000) :
    ∃ w', (Instr.mapUpdate 72 (.map (some b)) (.int .i64 (n : Int)) (.int .i64 (scN S n : Int))).run Try.prog w = .ok () w' ∧ ScM w' b S (n + 1) ∧ w.grownBy w' (some b) := by
  obtain ⟨w2, r1, own1, g1⟩ := World.ownsMap.update h scKey scMap (by unfold maxLen; omega) (scKeyOf (j := (n : Int)) (by omega)) (plainElem_int Try.underlying2 (scWf (x := (scN S n : Int)) (by omega)))
  exact ⟨w2, r1, own1, g1⟩
end Go.Proofs.Ytgohipfaojiilaa
