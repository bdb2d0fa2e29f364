/- Texts of a proof, laid together. -/
import Derived.Test.YtodlofabffenoaaV03
import Derived.Test.YtodlofabffenoaaV01
import Derived.Deep.LoopGhost
import Derived.Laws.Rows
import Derived.Laws.Tables
import Derived.Laws.CopyOwn
import Derived.Maps.OwnIn
import Derived.DeepKeys4
import Derived.RangeFuncNested
import Derived.RangeFuncBound
import Derived.RangeFuncCalls
import Derived.RangeFuncLeaves
import Derived.Test.YtodlofabffenoaaV11
import Derived.Maps.AppendAt
import Derived.Test.YtodlofabffenoaaV10
import Derived.Laws.AppendOwn
namespace Go.Proofs.Ytodlofabffenoaa
open Go.ChangeShapes Go.WideShapes Go.ChangeAt Go.RowKit
set_option linter.unusedVariables false
set_option linter.unusedSimpArgs false
set_option maxRecDepth 4000
def i8s (L : List Int) : List Value := L.map (Value.int .i8)
theorem i8s_set (L : List Int) (k : Nat) (v : Int) : (i8s L).toArray.setIfInBounds k (.int .i8 v) = (i8s (L.set k v)).toArray := by
  rw [List.setIfInBounds_toArray, i8s, i8s, List.map_set]
def pad25 (xs : List Int) : List Int := xs ++ List.replicate (25 - xs.length) 0
def plcL (xs ys : List Int) : List Int := pad25 xs ++ pad25 ys
def segL (zs : List Int) (k : Nat) : List Int := zs.take k ++ List.replicate (25 - k) 0
theorem segL_length (zs : List Int) (k : Nat) (h : k ≤ zs.length) (h2 : k ≤ 25) : (segL zs k).length = 25 := by
  unfold segL
  rw [List.length_append, List.length_take, List.length_replicate]
  omega
theorem segL_end (zs : List Int) : segL zs zs.length = pad25 zs := by unfold segL pad25; rw [List.take_length]
theorem pad25_length (zs : List Int) (h : zs.length ≤ 25) : (pad25 zs).length = 25 := by rw [← segL_end, segL_length zs _ (Nat.le_refl _) h]
theorem segL_step (pre zs suf : List Int) (k : Nat) (hk : k < zs.length) (h25 : zs.length ≤ 25) : (pre ++ (segL zs k ++ suf)).set (pre.length + k) (zs.getD k 0) = pre ++ (segL zs (k + 1) ++ suf) := by
  rw [List.set_append_right _ _ (by omega), show pre.length + k - pre.length = k by omega]
  congr 1
  have hs : k < (segL zs k).length := by rw [segL_length zs k (by omega) (by omega)]; omega
  rw [List.set_append_left _ _ hs]
  congr 1
  unfold segL
  have hl : (zs.take k).length = k := by rw [List.length_take]; omega
  rw [List.set_append_right _ _ (by omega), hl, Nat.sub_self, show 25 - k = (25 - (k + 1)) + 1 by omega, List.replicate_succ, List.set_cons_zero]
  have ht : zs.take (k + 1) = zs.take k ++ [zs.getD k 0] := by
    rw [List.take_add_one]
    congr 1
    rw [List.getD_eq_getElem?_getD, List.getElem?_eq_getElem hk]
    rfl
  rw [ht, List.append_assoc]
  rfl
theorem infoPlc : (Try.prog.info? 115).map (·.size) = some 50 := by kernel_rfl
set_option maxRecDepth 8000 in
set_option maxHeartbeats 2000000 in
theorem placement_any (a1 a2 : Option Addr) (n1 n2 c1 c2 : Nat) (xs ys : List Int) (w : World) (h1 : xs.length = n1) (h2 : ys.length = n2) (l1 : n1 ≤ 25) (l2 : n2 ≤ 25) (hx : ∀ x ∈ xs, 0 ≤ x ∧ x ≤ 100) (hy : ∀ y ∈ ys, 0 ≤ y ∧ y ≤ 100) (r1 : IRow w a1 xs) (r2 : IRow w a2 ys) :
    Calls Try.prog 76 #[.agg #[.slice a1 n1 c1, .slice a2 n2 c2]] w fun e w' => e = .returned (.agg (i8s (plcL xs ys)).toArray) ∧ Below w.heap.size w w' := by
  have BB := ((Blk.new w #[.slice a1 n1 c1, .slice a2 n2 c2] 32).alloc (.cells #[.int .i8 0, .int .i8 0, .int .i8 0, .int .i8 0, .int .i8 0, .int .i8 0, .int .i8 0, .int .i8 0, .int .i8 0, .int .i8 0, .int .i8 0, .int .i8 0, .int .i8 0, .int .i8 0, .int .i8 0, .int .i8 0, .int .i8 0, .int .i8 0, .int .i8 0, .int .i8 0, .int .i8 0, .int .i8 0, .int .i8 0, .int .i8 0, .int .i8 0, .int .i8 0, .int .i8 0, .int .i8 0, .int .i8 0, .int .i8 0, .int .i8 0, .int .i8 0, .int .i8 0, .int .i8 0, .int .i8 0, .int .i8 0, .int .i8 0, .int .i8 0, .int .i8 0, .int .i8 0, .int .i8 0, .int .i8 0, .int .i8 0, .int .i8 0, .int .i8 0, .int .i8 0, .int .i8 0, .int .i8 0, .int .i8 0, .int .i8 0] 115)).alloc (.cells #[.int .i8 0, .int .i8 0, .int .i8 0, .int .i8 0, .int .i8 0, .int .i8 0, .int .i8 0, .int .i8 0, .int .i8 0, .int .i8 0, .int .i8 0, .int .i8 0, .int .i8 0, .int .i8 0, .int .i8 0, .int .i8 0, .int .i8 0, .int .i8 0, .int .i8 0, .int .i8 0, .int .i8 0, .int .i8 0, .int .i8 0, .int .i8 0, .int .i8 0, .int .i8 0, .int .i8 0, .int .i8 0, .int .i8 0, .int .i8 0, .int .i8 0, .int .i8 0, .int .i8 0, .int .i8 0, .int .i8 0, .int .i8 0, .int .i8 0, .int .i8 0, .int .i8 0, .int .i8 0, .int .i8 0, .int .i8 0, .int .i8 0, .int .i8 0, .int .i8 0, .int .i8 0, .int .i8 0, .int .i8 0, .int .i8 0, .int .i8 0] 115)
  have BR := (Blk.new (w.alloc (.cells #[.slice a1 n1 c1, .slice a2 n2 c2] 32)) #[.int .i8 0, .int .i8 0, .int .i8 0, .int .i8 0, .int .i8 0, .int .i8 0, .int .i8 0, .int .i8 0, .int .i8 0, .int .i8 0, .int .i8 0, .int .i8 0, .int .i8 0, .int .i8 0, .int .i8 0, .int .i8 0, .int .i8 0, .int .i8 0, .int .i8 0, .int .i8 0, .int .i8 0, .int .i8 0, .int .i8 0, .int .i8 0, .int .i8 0, .int .i8 0, .int .i8 0, .int .i8 0, .int .i8 0, .int .i8 0, .int .i8 0, .int .i8 0, .int .i8 0, .int .i8 0, .int .i8 0, .int .i8 0, .int .i8 0, .int .i8 0, .int .i8 0, .int .i8 0, .int .i8 0, .int .i8 0, .int .i8 0, .int .i8 0, .int .i8 0, .int .i8 0, .int .i8 0, .int .i8 0, .int .i8 0, .int .i8 0] 115).alloc (.cells #[.int .i8 0, .int .i8 0, .int .i8 0, .int .i8 0, .int .i8 0, .int .i8 0, .int .i8 0, .int .i8 0, .int .i8 0, .int .i8 0, .int .i8 0, .int .i8 0, .int .i8 0, .int .i8 0, .int .i8 0, .int .i8 0, .int .i8 0, .int .i8 0, .int .i8 0, .int .i8 0, .int .i8 0, .int .i8 0, .int .i8 0, .int .i8 0, .int .i8 0, .int .i8 0, .int .i8 0, .int .i8 0, .int .i8 0, .int .i8 0, .int .i8 0, .int .i8 0, .int .i8 0, .int .i8 0, .int .i8 0, .int .i8 0, .int .i8 0, .int .i8 0, .int .i8 0, .int .i8 0, .int .i8 0, .int .i8 0, .int .i8 0, .int .i8 0, .int .i8 0, .int .i8 0, .int .i8 0, .int .i8 0, .int .i8 0, .int .i8 0] 115)
  have BP := Blk.new ((w.alloc (.cells #[.slice a1 n1 c1, .slice a2 n2 c2] 32)).alloc (.cells #[.int .i8 0, .int .i8 0, .int .i8 0, .int .i8 0, .int .i8 0, .int .i8 0, .int .i8 0, .int .i8 0, .int .i8 0, .int .i8 0, .int .i8 0, .int .i8 0, .int .i8 0, .int .i8 0, .int .i8 0, .int .i8 0, .int .i8 0, .int .i8 0, .int .i8 0, .int .i8 0, .int .i8 0, .int .i8 0, .int .i8 0, .int .i8 0, .int .i8 0, .int .i8 0, .int .i8 0, .int .i8 0, .int .i8 0, .int .i8 0, .int .i8 0, .int .i8 0, .int .i8 0, .int .i8 0, .int .i8 0, .int .i8 0, .int .i8 0, .int .i8 0, .int .i8 0, .int .i8 0, .int .i8 0, .int .i8 0, .int .i8 0, .int .i8 0, .int .i8 0, .int .i8 0, .int .i8 0, .int .i8 0, .int .i8 0, .int .i8 0] 115)) #[.int .i8 0, .int .i8 0, .int .i8 0, .int .i8 0, .int .i8 0, .int .i8 0, .int .i8 0, .int .i8 0, .int .i8 0, .int .i8 0, .int .i8 0, .int .i8 0, .int .i8 0, .int .i8 0, .int .i8 0, .int .i8 0, .int .i8 0, .int .i8 0, .int .i8 0, .int .i8 0, .int .i8 0, .int .i8 0, .int .i8 0, .int .i8 0, .int .i8 0, .int .i8 0, .int .i8 0, .int .i8 0, .int .i8 0, .int .i8 0, .int .i8 0, .int .i8 0, .int .i8 0, .int .i8 0, .int .i8 0, .int .i8 0, .int .i8 0, .int .i8 0, .int .i8 0, .int .i8 0, .int .i8 0, .int .i8 0, .int .i8 0, .int .i8 0, .int .i8 0, .int .i8 0, .int .i8 0, .int .i8 0, .int .i8 0, .int .i8 0] 115
  have hb : Below w.heap.size w (((w.alloc (.cells #[.slice a1 n1 c1, .slice a2 n2 c2] 32)).alloc (.cells #[.int .i8 0, .int .i8 0, .int .i8 0, .int .i8 0, .int .i8 0, .int .i8 0, .int .i8 0, .int .i8 0, .int .i8 0, .int .i8 0, .int .i8 0, .int .i8 0, .int .i8 0, .int .i8 0, .int .i8 0, .int .i8 0, .int .i8 0, .int .i8 0, .int .i8 0, .int .i8 0, .int .i8 0, .int .i8 0, .int .i8 0, .int .i8 0, .int .i8 0, .int .i8 0, .int .i8 0, .int .i8 0, .int .i8 0, .int .i8 0, .int .i8 0, .int .i8 0, .int .i8 0, .int .i8 0, .int .i8 0, .int .i8 0, .int .i8 0, .int .i8 0, .int .i8 0, .int .i8 0, .int .i8 0, .int .i8 0, .int .i8 0, .int .i8 0, .int .i8 0, .int .i8 0, .int .i8 0, .int .i8 0, .int .i8 0, .int .i8 0] 115)).alloc (.cells #[.int .i8 0, .int .i8 0, .int .i8 0, .int .i8 0, .int .i8 0, .int .i8 0, .int .i8 0, .int .i8 0, .int .i8 0, .int .i8 0, .int .i8 0, .int .i8 0, .int .i8 0, .int .i8 0, .int .i8 0, .int .i8 0, .int .i8 0, .int .i8 0, .int .i8 0, .int .i8 0, .int .i8 0, .int .i8 0, .int .i8 0, .int .i8 0, .int .i8 0, .int .i8 0, .int .i8 0, .int .i8 0, .int .i8 0, .int .i8 0, .int .i8 0, .int .i8 0, .int .i8 0, .int .i8 0, .int .i8 0, .int .i8 0, .int .i8 0, .int .i8 0, .int .i8 0, .int .i8 0, .int .i8 0, .int .i8 0, .int .i8 0, .int .i8 0, .int .i8 0, .int .i8 0, .int .i8 0, .int .i8 0, .int .i8 0, .int .i8 0] 115)) := (((Below.refl _ _).alloc (Nat.le_refl _) _).alloc (by simp) _).alloc (by simp; omega) _
  have hz : (((w.alloc (.cells #[.slice a1 n1 c1, .slice a2 n2 c2] 32)).alloc (.cells #[.int .i8 0, .int .i8 0, .int .i8 0, .int .i8 0, .int .i8 0, .int .i8 0, .int .i8 0, .int .i8 0, .int .i8 0, .int .i8 0, .int .i8 0, .int .i8 0, .int .i8 0, .int .i8 0, .int .i8 0, .int .i8 0, .int .i8 0, .int .i8 0, .int .i8 0, .int .i8 0, .int .i8 0, .int .i8 0, .int .i8 0, .int .i8 0, .int .i8 0, .int .i8 0, .int .i8 0, .int .i8 0, .int .i8 0, .int .i8 0, .int .i8 0, .int .i8 0, .int .i8 0, .int .i8 0, .int .i8 0, .int .i8 0, .int .i8 0, .int .i8 0, .int .i8 0, .int .i8 0, .int .i8 0, .int .i8 0, .int .i8 0, .int .i8 0, .int .i8 0, .int .i8 0, .int .i8 0, .int .i8 0, .int .i8 0, .int .i8 0] 115)).alloc (.cells #[.int .i8 0, .int .i8 0, .int .i8 0, .int .i8 0, .int .i8 0, .int .i8 0, .int .i8 0, .int .i8 0, .int .i8 0, .int .i8 0, .int .i8 0, .int .i8 0, .int .i8 0, .int .i8 0, .int .i8 0, .int .i8 0, .int .i8 0, .int .i8 0, .int .i8 0, .int .i8 0, .int .i8 0, .int .i8 0, .int .i8 0, .int .i8 0, .int .i8 0, .int .i8 0, .int .i8 0, .int .i8 0, .int .i8 0, .int .i8 0, .int .i8 0, .int .i8 0, .int .i8 0, .int .i8 0, .int .i8 0, .int .i8 0, .int .i8 0, .int .i8 0, .int .i8 0, .int .i8 0, .int .i8 0, .int .i8 0, .int .i8 0, .int .i8 0, .int .i8 0, .int .i8 0, .int .i8 0, .int .i8 0, .int .i8 0, .int .i8 0] 115)).heap.size = w.heap.size + 1 + 1 + 1 := by simp
  rw [show (w.alloc (.cells #[.slice a1 n1 c1, .slice a2 n2 c2] 32)).heap.size = w.heap.size + 1 by simp] at BR
  rw [show ((w.alloc (.cells #[.slice a1 n1 c1, .slice a2 n2 c2] 32)).alloc (.cells #[.int .i8 0, .int .i8 0, .int .i8 0, .int .i8 0, .int .i8 0, .int .i8 0, .int .i8 0, .int .i8 0, .int .i8 0, .int .i8 0, .int .i8 0, .int .i8 0, .int .i8 0, .int .i8 0, .int .i8 0, .int .i8 0, .int .i8 0, .int .i8 0, .int .i8 0, .int .i8 0, .int .i8 0, .int .i8 0, .int .i8 0, .int .i8 0, .int .i8 0, .int .i8 0, .int .i8 0, .int .i8 0, .int .i8 0, .int .i8 0, .int .i8 0, .int .i8 0, .int .i8 0, .int .i8 0, .int .i8 0, .int .i8 0, .int .i8 0, .int .i8 0, .int .i8 0, .int .i8 0, .int .i8 0, .int .i8 0, .int .i8 0, .int .i8 0, .int .i8 0, .int .i8 0, .int .i8 0, .int .i8 0, .int .i8 0, .int .i8 0] 115)).heap.size = w.heap.size + 1 + 1 by simp] at BP
  have BR : Blk (((w.alloc (.cells #[.slice a1 n1 c1, .slice a2 n2 c2] 32)).alloc (.cells #[.int .i8 0, .int .i8 0, .int .i8 0, .int .i8 0, .int .i8 0, .int .i8 0, .int .i8 0, .int .i8 0, .int .i8 0, .int .i8 0, .int .i8 0, .int .i8 0, .int .i8 0, .int .i8 0, .int .i8 0, .int .i8 0, .int .i8 0, .int .i8 0, .int .i8 0, .int .i8 0, .int .i8 0, .int .i8 0, .int .i8 0, .int .i8 0, .int .i8 0, .int .i8 0, .int .i8 0, .int .i8 0, .int .i8 0, .int .i8 0, .int .i8 0, .int .i8 0, .int .i8 0, .int .i8 0, .int .i8 0, .int .i8 0, .int .i8 0, .int .i8 0, .int .i8 0, .int .i8 0, .int .i8 0, .int .i8 0, .int .i8 0, .int .i8 0, .int .i8 0, .int .i8 0, .int .i8 0, .int .i8 0, .int .i8 0, .int .i8 0] 115)).alloc (.cells #[.int .i8 0, .int .i8 0, .int .i8 0, .int .i8 0, .int .i8 0, .int .i8 0, .int .i8 0, .int .i8 0, .int .i8 0, .int .i8 0, .int .i8 0, .int .i8 0, .int .i8 0, .int .i8 0, .int .i8 0, .int .i8 0, .int .i8 0, .int .i8 0, .int .i8 0, .int .i8 0, .int .i8 0, .int .i8 0, .int .i8 0, .int .i8 0, .int .i8 0, .int .i8 0, .int .i8 0, .int .i8 0, .int .i8 0, .int .i8 0, .int .i8 0, .int .i8 0, .int .i8 0, .int .i8 0, .int .i8 0, .int .i8 0, .int .i8 0, .int .i8 0, .int .i8 0, .int .i8 0, .int .i8 0, .int .i8 0, .int .i8 0, .int .i8 0, .int .i8 0, .int .i8 0, .int .i8 0, .int .i8 0, .int .i8 0, .int .i8 0] 115)) (w.heap.size + 1) (i8s (List.replicate 50 0)).toArray 115 := BR
  have BP : Blk (((w.alloc (.cells #[.slice a1 n1 c1, .slice a2 n2 c2] 32)).alloc (.cells #[.int .i8 0, .int .i8 0, .int .i8 0, .int .i8 0, .int .i8 0, .int .i8 0, .int .i8 0, .int .i8 0, .int .i8 0, .int .i8 0, .int .i8 0, .int .i8 0, .int .i8 0, .int .i8 0, .int .i8 0, .int .i8 0, .int .i8 0, .int .i8 0, .int .i8 0, .int .i8 0, .int .i8 0, .int .i8 0, .int .i8 0, .int .i8 0, .int .i8 0, .int .i8 0, .int .i8 0, .int .i8 0, .int .i8 0, .int .i8 0, .int .i8 0, .int .i8 0, .int .i8 0, .int .i8 0, .int .i8 0, .int .i8 0, .int .i8 0, .int .i8 0, .int .i8 0, .int .i8 0, .int .i8 0, .int .i8 0, .int .i8 0, .int .i8 0, .int .i8 0, .int .i8 0, .int .i8 0, .int .i8 0, .int .i8 0, .int .i8 0] 115)).alloc (.cells #[.int .i8 0, .int .i8 0, .int .i8 0, .int .i8 0, .int .i8 0, .int .i8 0, .int .i8 0, .int .i8 0, .int .i8 0, .int .i8 0, .int .i8 0, .int .i8 0, .int .i8 0, .int .i8 0, .int .i8 0, .int .i8 0, .int .i8 0, .int .i8 0, .int .i8 0, .int .i8 0, .int .i8 0, .int .i8 0, .int .i8 0, .int .i8 0, .int .i8 0, .int .i8 0, .int .i8 0, .int .i8 0, .int .i8 0, .int .i8 0, .int .i8 0, .int .i8 0, .int .i8 0, .int .i8 0, .int .i8 0, .int .i8 0, .int .i8 0, .int .i8 0, .int .i8 0, .int .i8 0, .int .i8 0, .int .i8 0, .int .i8 0, .int .i8 0, .int .i8 0, .int .i8 0, .int .i8 0, .int .i8 0, .int .i8 0, .int .i8 0] 115)) (w.heap.size + 1 + 1) (i8s (([] : List Int) ++ (segL xs 0 ++ List.replicate 25 0))).toArray 115 := BP
  go_enter Try.func76, Try.ntmps76
  obtain ⟨y0, y1, yf, yl⟩ := BB.two
  go_wp2_with fail
  clear y0 y1 yf yl
  generalize (((w.alloc (.cells #[.slice a1 n1 c1, .slice a2 n2 c2] 32)).alloc (.cells #[.int .i8 0, .int .i8 0, .int .i8 0, .int .i8 0, .int .i8 0, .int .i8 0, .int .i8 0, .int .i8 0, .int .i8 0, .int .i8 0, .int .i8 0, .int .i8 0, .int .i8 0, .int .i8 0, .int .i8 0, .int .i8 0, .int .i8 0, .int .i8 0, .int .i8 0, .int .i8 0, .int .i8 0, .int .i8 0, .int .i8 0, .int .i8 0, .int .i8 0, .int .i8 0, .int .i8 0, .int .i8 0, .int .i8 0, .int .i8 0, .int .i8 0, .int .i8 0, .int .i8 0, .int .i8 0, .int .i8 0, .int .i8 0, .int .i8 0, .int .i8 0, .int .i8 0, .int .i8 0, .int .i8 0, .int .i8 0, .int .i8 0, .int .i8 0, .int .i8 0, .int .i8 0, .int .i8 0, .int .i8 0, .int .i8 0, .int .i8 0] 115)).alloc (.cells #[.int .i8 0, .int .i8 0, .int .i8 0, .int .i8 0, .int .i8 0, .int .i8 0, .int .i8 0, .int .i8 0, .int .i8 0, .int .i8 0, .int .i8 0, .int .i8 0, .int .i8 0, .int .i8 0, .int .i8 0, .int .i8 0, .int .i8 0, .int .i8 0, .int .i8 0, .int .i8 0, .int .i8 0, .int .i8 0, .int .i8 0, .int .i8 0, .int .i8 0, .int .i8 0, .int .i8 0, .int .i8 0, .int .i8 0, .int .i8 0, .int .i8 0, .int .i8 0, .int .i8 0, .int .i8 0, .int .i8 0, .int .i8 0, .int .i8 0, .int .i8 0, .int .i8 0, .int .i8 0, .int .i8 0, .int .i8 0, .int .i8 0, .int .i8 0, .int .i8 0, .int .i8 0, .int .i8 0, .int .i8 0, .int .i8 0, .int .i8 0] 115)) = v0 at *
  obtain ⟨gR, hgR⟩ : ∃ gR, w.heap.size + 1 = gR := ⟨_, rfl⟩
  rw [hgR] at BR BP ⊢
  obtain ⟨gP, hgP⟩ : ∃ gP, gR + 1 = gP := ⟨_, rfl⟩
  rw [hgP] at BP
  simp only [hgP]
  go_loopg [4, 5, 11] n1 (fun m q1 q2 i wr => ∃ k : Nat, k ≤ n1 ∧ m = n1 - k ∧ i = .int .i64 k ∧ Blk wr gP (i8s (([] : List Int) ++ (segL xs k ++ List.replicate 25 0))).toArray 115 ∧ Blk wr gR (i8s (List.replicate 50 0)).toArray 115 ∧ Blk wr w.heap.size #[.slice a1 n1 c1, .slice a2 n2 c2] 32 ∧ Below w.heap.size w wr)
  case atStart => exact ⟨0, by omega, by omega, rfl, BP, BR, BB, hb⟩
  case round =>
    clear BP BR BB hb
    obtain ⟨k, hk, hm, rfl, BP, BR, BB, hb⟩ := hrel
    by_cases hlt : k < n1
    · have hlt' : (k : Int) < (n1 : Int) := by omega
      have hk0 : (0 : Int) ≤ (k : Int) := by omega
      have hk25 : (k : Int) < 25 := by omega
      obtain ⟨b, o, rfl, hc⟩ := (r1.below hb) k (by omega)
      have hv := hx _ (getD_mem (xs := xs) (k := k) (by omega))
      have hst := segL_step (([] : List Int)) xs (List.replicate 25 0) k (by omega) (by omega)
      obtain ⟨v, hv'⟩ : ∃ v, xs.getD k 0 = v := ⟨_, rfl⟩
      rw [hv'] at hc hv hst
      have wz : IntKind.i8.wrap v = v := by unfold IntKind.wrap; simp [IntKind.bits, IntKind.signed]; omega
      have hf := fun i => BP.free i
      have hlen : (i8s (([] : List Int) ++ (segL xs k ++ List.replicate 25 0))).toArray.size = 50 := by
        have := segL_length xs k (by omega) (by omega)
        simp [i8s]
        omega
      obtain ⟨old, hold⟩ : ∃ old, wr.cell? ⟨gP, k, none⟩ = some old := ⟨_, (BP.cell k).trans (Array.getElem?_eq_getElem (by omega))⟩
      have HST := Lib.hid hst
      have HV := Lib.hid hv
      clear hst hv hv' hlen
      go_wp2
      go_roundg (n1 - (k + 1))
      case measure => omega
      case rel =>
        refine ⟨k + 1, by omega, rfl, by go_num, ?_, BR.other (by omega), BB.other (by omega), hb.setCell (p := ⟨gP, k, none⟩) (by simp; omega) _⟩
        have t := BP.set (i := k) (.int .i8 v)
        rw [i8s_set] at t
        have e := HST.out
        rw [List.length_nil, Nat.zero_add] at e
        rw [e] at t
        exact t
    · obtain rfl : n1 = k := by omega
      have hlt' : ¬ (n1 : Int) < (n1 : Int) := by omega
      rw [← h1, segL_end, List.nil_append] at BP
      have hpx : (pad25 xs).length = 25 := pad25_length xs (by omega)
      have HPX := Lib.hid hpx
      clear hpx hlt
      obtain ⟨y0, y1, yf, yl⟩ := BB.two
      go_wp2_with fail
      clear y0 y1 yf yl
      have BP2 : Blk wr gP (i8s (pad25 xs ++ (segL ys 0 ++ ([] : List Int)))).toArray 115 := by rw [List.append_nil]; exact BP
      go_loopg [6, 7, 25] n2 (fun m q1 q2 i wr => ∃ k : Nat, k ≤ n2 ∧ m = n2 - k ∧ i = .int .i64 k ∧ Blk wr gP (i8s (pad25 xs ++ (segL ys k ++ []))).toArray 115 ∧ Blk wr gR (i8s (List.replicate 50 0)).toArray 115 ∧ Blk wr w.heap.size #[.slice a1 n1 c1, .slice a2 n2 c2] 32 ∧ Below w.heap.size w wr)
      case atStart => exact ⟨0, by omega, by omega, rfl, BP2, BR, BB, hb⟩
      case round =>
        clear BP2 BR BB hb
        obtain ⟨k, hk, hm, rfl, BP, BR, BB, hb⟩ := hrel
        by_cases hlt : k < n2
        · have hlt' : (k : Int) < (n2 : Int) := by omega
          have hk0 : (0 : Int) ≤ (k : Int) := by omega
          have hk25 : (k : Int) < 25 := by omega
          obtain ⟨b, o, rfl, hc⟩ := (r2.below hb) k (by omega)
          have hv := hy _ (getD_mem (xs := ys) (k := k) (by omega))
          have hst := segL_step (pad25 xs) ys ([]) k (by omega) (by omega)
          obtain ⟨v, hv'⟩ : ∃ v, ys.getD k 0 = v := ⟨_, rfl⟩
          rw [hv'] at hc hv hst
          have wz : IntKind.i8.wrap v = v := by unfold IntKind.wrap; simp [IntKind.bits, IntKind.signed]; omega
          have hf := fun i => BP.free i
          have hlen : (i8s (pad25 xs ++ (segL ys k ++ []))).toArray.size = 50 := by
            have := segL_length ys k (by omega) (by omega)
            have := HPX.out
            simp [i8s]
            omega
          obtain ⟨old, hold⟩ : ∃ old, wr.cell? ⟨gP, (25 + k), none⟩ = some old := ⟨_, (BP.cell (25 + k)).trans (Array.getElem?_eq_getElem (by omega))⟩
          have HST := Lib.hid hst
          have HV := Lib.hid hv
          clear hst hv hv' hlen
          go_wp2
          go_roundg (n2 - (k + 1))
          case measure => omega
          case rel =>
            refine ⟨k + 1, by omega, rfl, by go_num, ?_, BR.other (by omega), BB.other (by omega), hb.setCell (p := ⟨gP, (25 + k), none⟩) (by simp; omega) _⟩
            have t := BP.set (i := (25 + k)) (.int .i8 v)
            rw [i8s_set] at t
            have e := HST.out
            rw [HPX.out] at e
            rw [e] at t
            exact t
        · obtain rfl : n2 = k := by omega
          have hlt' : ¬ (n2 : Int) < (n2 : Int) := by omega
          rw [← h2, segL_end, List.append_nil] at BP
          clear hlt
          obtain ⟨ARR, hARR⟩ : ∃ q, (i8s (pad25 xs ++ pad25 ys)).toArray = q := ⟨_, rfl⟩
          have hsz : ARR.size = 50 := by
            rw [← hARR]
            have := pad25_length ys (by omega)
            have := HPX.out
            simp [i8s]
            omega
          have hone : ARR.all (·.oneCell') = true := by
            rw [← hARR]
            rw [List.all_toArray, List.all_eq_true]
            intro x hx
            obtain ⟨y, _, rfl⟩ := List.mem_map.1 hx
            rfl
          rw [hARR] at BP
          have hinfo : (Try.prog.info? 115).map (·.size) = some ARR.size := by rw [hsz]; exact infoPlc
          have hRET : (i8s (plcL xs ys)).toArray = ARR := hARR
          have HRET := Lib.hid hRET
          clear hARR hRET HPX
          have hPB : wr.heap[gP]? = some (.cells ARR 115 (0, 0)) := BP
          have hRB : wr.heap[gR]? = some (.cells (i8s (List.replicate 50 0)).toArray 115 (0, 0)) := BR
          have hold : (i8s (List.replicate 50 0)).toArray.size = ARR.size := by rw [hsz]; simp [i8s]
          go_wp2_with (first | (refine wpList_load_row rfl _ (.tmp 3) rfl gP rfl _ ARR (0, 0) (.array 2 113) hPB Try.underlying115 rfl hinfo ?_) | (refine wpList_store_row rfl _ (.tmp 2) (.tmp 36) rfl gR ARR rfl rfl _ _ hRB hinfo hold hone ?_))
          refine bodyPost_ret (v := .agg ARR) ?_ rfl ?_
          · exact results_cell_row rfl _ _ gR _ ARR (0, 0) (.array 2 113) rfl (setRow_heap wr gR _ _ _ _ hRB) Try.underlying115 rfl hinfo
          rw [HRET.out]
          exact ⟨rfl, below_setRow hb (by omega) _⟩
end Go.Proofs.Ytodlofabffenoaa
namespace Go.Proofs.Ytodlofabffenoaa
open Go.ChangeShapes Go.WideShapes Go.ChangeAt Go.RowKit
set_option linter.unusedVariables false
set_option linter.unusedSimpArgs false
set_option maxRecDepth 4000
open Go.Maps (Keyed)
theorem plcLaidOut : laidOutB Try.prog = true := by kernel_rfl
theorem plcRow : (115 : TypeId) < Try.prog.types.size := of_decide_eq_true (by kernel_rfl)
theorem plcWide : (match Try.prog.underlying 115 with | some (.array _ _) | some (.struct _) => true | _ => false) = true := by rw [Try.underlying115]
set_option maxRecDepth 100000 in
theorem plcLaw : WideMaps.KeyLaw Try.prog 115 := deep_law_laid plcLaidOut (m := 3) (by omega) plcRow (by kernel_rfl) plcWide
theorem plcKeyed : Keyed Try.prog 115 := Keyed.of_law plcLaw
theorem plcCells : Try.prog.cellsOf 115 = 50 := by kernel_rfl
theorem plcCells25 : Try.prog.cellsOf 113 = 25 := by kernel_rfl
theorem plcCells1 : Try.prog.cellsOf 112 = 1 := by kernel_rfl
theorem plcDeep : Try.prog.keyType 115 = true := by kernel_rfl
theorem mapM_all {α β : Type} (g : α → Option β) (f : α → β) : ∀ l : List α, (∀ i ∈ l, g i = some (f i)) → l.mapM g = some (l.map f)
  | [], _ => rfl
  | a :: l, h => by
    rw [List.mapM_cons, h a (by simp), mapM_all g f l (fun i hi => h i (by simp [hi]))]
    rfl
def Tiny (L : List Int) : Prop := ∀ x ∈ L, -128 ≤ x ∧ x ≤ 127
theorem tiny_wf {x : Int} (h : -128 ≤ x ∧ x ≤ 127) : (Lit.int .i8 x).wf = true := by
  simp [Lit.wf, IntKind.min, IntKind.max, IntKind.signed, IntKind.bits]
  omega
theorem drop_one (L : List Int) (i : Nat) (hi : i < L.length) : ((i8s L).drop (i * 1)).take 1 = [.int .i8 (L.getD i 0)] := by
  rw [Nat.mul_one]
  apply List.ext_getElem?
  intro j
  rw [List.getElem?_take, List.getElem?_drop]
  cases j with
  | zero => simp [i8s, hi]
  | succ j => simp
theorem flat_one (L : List Int) : (L.map (fun x => [Lit.int .i8 x])).flatten = L.map (Lit.int .i8) := by
  induction L with
  | nil => rfl
  | cons a l ih => rw [List.map_cons, List.flatten_cons, ih]; rfl
theorem flat_getD (L : List Int) (n : Nat) (hn : L.length = n) : ((List.range n).map (fun i => [Lit.int .i8 (L.getD i 0)])).flatten = L.map (Lit.int .i8) := by
  subst hn
  rw [← flat_one]
  congr 1
  apply List.ext_getElem
  · simp
  · intro i h1 h2
    have : i < L.length := by simpa using h2
    simp [List.getD, this]
theorem keyLits_one (d : Nat) (x : Int) (h : -128 ≤ x ∧ x ≤ 127) : Try.prog.keyLits (d + 1) 112 [.int .i8 x] = some [Lit.int .i8 x] := by
  unfold Program.keyLits
  rw [Try.underlying112]
  simp [tiny_wf h]
theorem keyLits_25 (d : Nat) (L : List Int) (hL : L.length = 25) (ht : Tiny L) : Try.prog.keyLits (d + 2) 113 (i8s L) = some (L.map (Lit.int .i8)) := by
  unfold Program.keyLits
  rw [Try.underlying113]
  simp only
  rw [if_pos (by rw [plcCells25]; simp [i8s, hL]), plcCells1]
  rw [mapM_all _ (fun i => [Lit.int .i8 (L.getD i 0)]) _ (fun i hi => by
    have hi' : i < L.length := by rw [hL]; simpa using hi
    rw [drop_one L i hi']
    exact keyLits_one d _ (ht _ (by simp [List.getD, hi'])))]
  rw [Option.map_some, flat_getD L 25 hL]
theorem keyLits_50 (d : Nat) (A B : List Int) (hA : A.length = 25) (hB : B.length = 25) (ha : Tiny A) (hb : Tiny B) : Try.prog.keyLits (d + 3) 115 (i8s (A ++ B)) = some ((A ++ B).map (Lit.int .i8)) := by
  unfold Program.keyLits
  rw [Try.underlying115]
  simp only
  rw [if_pos (by rw [plcCells]; simp [i8s, hA, hB]), plcCells25]
  have e0 : ((i8s (A ++ B)).drop (0 * 25)).take 25 = i8s A := by simp [i8s, List.take_append, hA]
  have e1 : ((i8s (A ++ B)).drop (1 * 25)).take 25 = i8s B := by
    rw [i8s, List.map_append, List.drop_append_of_le_length (by simp [hA]), List.drop_eq_nil_of_le (by simp [hA]), List.nil_append]
    exact List.take_of_length_le (by simp [hB])
  have hr : List.range 2 = [0, 1] := rfl
  rw [hr, List.mapM_cons, List.mapM_cons, List.mapM_nil, e0, e1, keyLits_25 d A hA ha, keyLits_25 d B hB hb]
  simp
def keyB (L : List Int) : Lit := .string (keyBytes (L.map (Lit.int .i8)))
theorem keyOf_plc (A B : List Int) (hA : A.length = 25) (hB : B.length = 25) (ha : Tiny A) (hb : Tiny B) : keyOf Try.prog 115 (.agg (i8s (A ++ B)).toArray) = some (keyB (A ++ B)) := by
  unfold keyOf
  rw [Try.underlying115]
  simp only
  have hf : (Value.agg (i8s (A ++ B)).toArray).formed Try.prog 115 = true := by
    unfold Value.formed
    rw [Try.underlying115]
    simp [plcCells, i8s, hA, hB]
  rw [plcDeep, hf]
  obtain ⟨d, hd⟩ : ∃ d, Try.prog.types.size + 1 = d + 3 := ⟨Try.prog.types.size - 2, by have : (115 : Nat) < Try.prog.types.size := plcRow; omega⟩
  rw [hd]
  have hc : (Value.agg (i8s (A ++ B)).toArray).cells.toList = i8s (A ++ B) := by simp [Value.cells]
  rw [hc, keyLits_50 d A B hA hB ha hb]
  rfl
theorem keyB_inj (A B A' B' : List Int) (hA : A.length = 25) (hB : B.length = 25) (ha : Tiny A) (hb : Tiny B) (hA' : A'.length = 25) (hB' : B'.length = 25) (ha' : Tiny A') (hb' : Tiny B') (e : keyB (A ++ B) = keyB (A' ++ B')) : A ++ B = A' ++ B' := by
  have h1 := keyOf_plc A B hA hB ha hb
  have h2 := keyOf_plc A' B' hA' hB' ha' hb'
  rw [← e] at h2
  have := plcKeyed.inj h1 h2
  simp only [Value.agg.injEq] at this
  have h3 := congrArg Array.toList this
  simp only at h3
  unfold i8s at h3
  exact List.map_inj_right (fun x y h => by simpa using h) |>.1 h3
end Go.Proofs.Ytodlofabffenoaa
namespace Go.Proofs.Ytodlofabffenoaa
open Go.RowKit
set_option linter.unusedVariables false
set_option linter.unusedSimpArgs false
structure Keep (foot : World → Nat → Prop) (X Y : World) : Prop where
  size : X.heap.size ≤ Y.heap.size
  same : ∀ k, k < X.heap.size → ¬ foot X k → Y.heap[k]? = X.heap[k]?
  foot : ∀ k, k < X.heap.size → foot Y k → foot X k
def SeqGood {α : Type} (g : Nat) (lb : Array Value) (encs : α → Array Value) (Good : α → World → Prop) (R : α → α → Prop) (lo : Nat) (S : List α → Prop) (N : Nat) (w : World) : Prop :=
  ∀ (n l : Nat) (foot : World → Nat → Prop) (J : List α → World → Prop) (W : World), Below w.heap.size w W → (∀ s X Y, J s X → Below X.heap.size X Y → J s Y) →
    (∀ X Y k, W.heap.size ≤ X.heap.size → Below X.heap.size X Y → foot Y k → foot X k) → (∀ s X k, J s X → foot X k → k < X.heap.size) →
    (∀ pre x X, J pre X → Good x X → (∀ y ∈ pre, R y x) → pre.length < N → W.heap.size ≤ X.heap.size → YieldAt Fence.wide n Try.prog l (encs x) X fun e Y => e = .returned (.bool true) ∧ J (pre ++ [x]) Y ∧ Below lo X Y ∧ Keep foot X Y) →
    J [] W → CallsIn Fence.wide (n + 1) Try.prog g (#[.func (.yield l) #[] #[]] ++ lb) W fun e Y => (∃ v, e = .returned v) ∧ ∃ xs, S xs ∧ J xs Y
def goodPost {α : Type} (B lo : Nat) (foot : World → Nat → Prop) (I : List α → World → Prop) (xs : List α) (W : World) : Exit → Act → World → Prop
  | .normal, _, Y => KeepsFrom B W Y ∧ Below lo W Y ∧ Keep foot W Y ∧ I xs Y
  | _, _, _ => False
def marked (a : Act) (D : Nat) : Act := { a with defers := { target := .collected D, args := #[] } :: a.defers }
theorem below_put {lo l : Nat} {W : World} {o : Obj} (hl : lo ≤ l) : Below lo W (W.putObj l o) := ⟨rfl, rfl, rfl, by simp, fun k hk => World.putObj_heap_other (by omega)⟩
theorem range_good {α : Type} {g : Operand} {ps : Array Tmp} {assign body : Code} {Q : Exit → Act → World → Prop} {a : Act} {w w0 : World} {n gf lo N : Nat} {lb : Array Value} {encs : α → Array Value} {Good : α → World → Prop} {R : α → α → Prop} {S : List α → Prop}
    (hg : a.eval g = .func (.func gf) #[] lb) (eg : ∀ args w, (callFunc gf args).run Try.prog w = .ok (.enter gf args) w) (hseq : SeqGood gf lb encs Good R lo S N w0) (hb0 : Below w0.heap.size w0 w) (hlo : lo ≤ w.heap.size) (hps : ∀ x, (encs x).size = ps.size)
    (foot : World → Nat → Prop) (hf : ∀ X Y k, w.heap.size ≤ X.heap.size → Below X.heap.size X Y → foot Y k → foot X k) (hfp : ∀ X l o o' k, X.heap[l]? = some o → o.isCells = false → Obj.isCells o' = false → foot (X.putObj l o') k → foot X k)
    (I : List α → World → Prop) (hIf : ∀ s X k, I s X → foot X k → k < X.heap.size) (hIb : ∀ s X Y, I s X → Below X.heap.size X Y → I s Y) (hIp : ∀ s X l o o', w.heap.size ≤ l → X.heap[l]? = some o → o.isCells = false → I s X → I s (X.putObj l o'))
    (hGb : ∀ x X Y, Good x X → Below X.heap.size X Y → Good x Y) (hGp : ∀ x X l o o', X.heap[l]? = some o → o.isCells = false → Good x X → Good x (X.putObj l o')) (h0 : I [] w) (Ax : α → Act → World → Prop) (hAp : ∀ x a' X l o o', X.heap[l]? = some o → o.isCells = false → Ax x a' X → Ax x a' (X.putObj l o'))
    (hassign : ∀ (l : Nat) (x : α) (W : World) (K : Act → World → Prop), w.heap.size ≤ W.heap.size → (∀ a' W', Below W.heap.size W W' → Ax x a' W' → K a' W') → assign.wpIn (Fence.wide.inRound l) n Try.prog (Exit.then K (fun _ _ _ => False)) { tmps := (ps.zip (encs x)).foldl (fun t (p, v) => t.setIfInBounds p v) a.tmps, defers := [] } W)
    (hbody : ∀ (l : Nat) (pre : List α) (x : α) (a' : Act) (W : World), w.heap.size ≤ l → I pre W → Good x W → Ax x a' W → (∀ y ∈ pre, R y x) → pre.length < N → body.wpIn (Fence.wide.inRound l) n Try.prog (goodPost w.heap.size lo foot I (pre ++ [x]) W) a' W)
    (hdone : ∀ (D : Nat) (xs : List α) (W : World), w.heap.size ≤ D → S xs → I xs W → W.heap[D]? = some (.deferred (some [])) → Q .normal (marked a D) W) :
    (Code.rangeFunc g ps assign body).wpIn Fence.wide (n + 2) Try.prog Q a w := by
  refine wpIn_rangeFunc fun fn hfn => ?_
  obtain ⟨mk, hmk⟩ : ∃ mk : LoopState → Loop, mk = fun st => { state := st, pending := none, fn, tmps := a.tmps, params := ps, assign, body, defers := w.heap.size } := ⟨_, rfl⟩
  have k1 : ∀ st, (mk st).state = st := fun st => by rw [hmk]
  have k2 : ∀ st, (mk st).pending = none := fun st => by rw [hmk]
  have k3 : ∀ st st', { mk st with state := st' } = mk st' := fun st st' => by rw [hmk]
  have k4 : ∀ st st', { mk st with state := st', pending := none } = mk st' := fun st st' => by rw [hmk]
  obtain ⟨W1, hW1⟩ : ∃ W1, (w.alloc (.deferred (some []))).alloc (.loop (mk .ready)) = W1 := ⟨_, rfl⟩
  have hsz : W1.heap.size = w.heap.size + 2 := by rw [← hW1]; simp
  have q1 : W1.heap[w.heap.size + 1]? = some (.loop (mk .ready)) := by
    rw [← hW1]
    have := World.alloc_heap_new (w.alloc (.deferred (some []))) (.loop (mk .ready))
    rwa [World.size_alloc] at this
  have q2 : W1.heap[w.heap.size]? = some (.deferred (some [])) := by
    rw [← hW1, Below.heap_alloc _ _ _ (by simp)]
    exact World.alloc_heap_new w _
  have hbw : Below w.heap.size w W1 := by
    rw [← hW1]
    exact ((Below.refl _ w).alloc (Nat.le_refl _) _).alloc (by simp) _
  have keepO : ∀ {X Y : World} {k : Nat} {o : Obj}, X.heap[k]? = some o → Below X.heap.size X Y → Y.heap[k]? = some o := fun h hb => (hb.block _ (Array.getElem?_eq_some_iff.1 h).1).trans h
  refine ⟨w.heap.size + 1, [{ target := .collected w.heap.size, args := #[] }], W1, { target := .fn (.func gf) lb, args := #[.func (.yield (w.heap.size + 1)) #[] #[]] }, W1, gf, #[.func (.yield (w.heap.size + 1)) #[] #[]] ++ lb, W1, ?_, ?_, ?_, ?_, fun _ => by omega, ?_⟩
  · rw [← hW1, hmk]
    exact run_enterLoop_outer _ _ _ _ _
  · simp only [resolve, hg]
    simp [go_sem]
  · intro f' hf'
    trivial
  · simp [invoke, go_sem, eg]
  · refine (hseq n (w.heap.size + 1) foot (fun pre X => I pre X ∧ X.heap[w.heap.size + 1]? = some (.loop (mk .ready)) ∧ X.heap[w.heap.size]? = some (.deferred (some []))) W1 (hb0.trans (hbw.mono hb0.size)) (fun s X Y h hb => ⟨hIb s X Y h.1 hb, keepO h.2.1 hb, keepO h.2.2 hb⟩) (fun X Y k hX => hf X Y k (by omega)) (fun s X k h => hIf s X k h.1) ?_ ⟨hIb _ _ _ h0 hbw, q1, q2⟩).mono ?_
    · rintro pre x X ⟨hi, hl, hk⟩ hgood hRx hlen hWX
      have hlt := (Array.getElem?_eq_some_iff.1 hl).1
      have hy := run_yield (P := Try.prog) (args := encs x) hl (by rw [hmk]; exact hps x)
      rw [hmk] at hy
      refine ⟨fn, _, assign, body, hy, roundIn_of_wpIn hfn (hassign _ x X _ (by omega) fun a' X' hbx hax => ?_)⟩
      clear hy
      have hbX : Below lo X X' := hbx.mono (by omega)
      have hKX : ∀ k, foot X' k → foot X k := fun k => hf X X' k (by omega) hbx
      have hKs : ∀ k, k < X.heap.size → X'.heap[k]? = X.heap[k]? := hbx.block
      have hXl := hl
      have hXs := hbx.size
      replace hi := hIb _ _ _ hi hbx
      replace hgood := hGb _ _ _ hgood hbx
      replace hl := keepO hl hbx
      replace hk := keepO hk hbx
      clear hbx
      refine ⟨_, run_beginRound hl (k1 _), ?_⟩
      rw [k3]
      replace hlt := (Array.getElem?_eq_some_iff.1 hl).1
      obtain ⟨X0, hX0⟩ : ∃ X0, X0 = X := ⟨_, rfl⟩
      rw [← hX0] at hbX hKX hKs hXl hXs ⊢
      clear hX0
      obtain ⟨X, rfl⟩ : ∃ X, X = X' := ⟨_, rfl⟩
      have hl2 : (X.putObj (w.heap.size + 1) (.loop (mk .busy))).heap[w.heap.size + 1]? = some (.loop (mk .busy)) := World.putObj_heap_same hlt
      have hk2 : (X.putObj (w.heap.size + 1) (.loop (mk .busy))).heap[w.heap.size]? = some (.deferred (some [])) := (World.putObj_heap_other (by omega)).trans hk
      have hb2 : Below lo X (X.putObj (w.heap.size + 1) (.loop (mk .busy))) := below_put (by omega)
      refine wpIn_mono (hbody _ pre x a' _ (by omega) (hIp _ _ _ _ _ (by omega) hl rfl hi) (hGp _ _ _ _ _ hl rfl hgood) (hAp _ _ _ _ _ _ hl rfl hax) hRx hlen) ?_
      rintro e a3 Y hp
      cases e with
      | normal =>
        obtain ⟨u1, u2, u4, u3⟩ := hp
        have hl3 := u1.same _ _ (by omega) hl2 rfl
        have hk3 := u1.same _ _ (Nat.le_refl _) hk2 rfl
        have hr := run_endRound (P := Try.prog) none hl3
        refine ⟨_, _, hr, rfl, ⟨hIp _ _ _ _ _ (by omega) hl3 rfl u3, ?_, (World.putObj_heap_other (by omega)).trans hk3⟩, (hbX.trans (hb2.trans u2)).trans (below_put (by omega)), ?_⟩
        · rw [World.putObj_heap_same (Array.getElem?_eq_some_iff.1 hl3).1]
          exact congrArg (fun q => some (Obj.loop q)) (k4 _ _)
        · have us := u4.size
          rw [World.putObj_size] at us
          refine ⟨by rw [World.putObj_size]; omega, fun k hk hnf => ?_, fun k hk hfk => hKX _ (hfp _ _ _ _ _ hl rfl rfl (u4.foot k (by rw [World.putObj_size]; omega) (hfp _ _ _ _ _ hl3 rfl rfl hfk)))⟩
          by_cases e : k = w.heap.size + 1
          · subst e
            rw [World.putObj_heap_same (Array.getElem?_eq_some_iff.1 hl3).1, hXl]
            exact congrArg (fun q => some (Obj.loop q)) (k4 _ _)
          · rw [World.putObj_heap_other e, u4.same k (by rw [World.putObj_size]; omega) (fun q => hnf (hKX _ (hfp _ _ _ _ _ hl rfl rfl q))), World.putObj_heap_other e, hKs k hk]
      | ret => exact hp.elim
      | exit id => exact hp.elim
      | goto t => exact hp.elim
      | panic ch => exact hp.elim
      | outgrown => exact hp.elim
    · rintro e W2 ⟨⟨v, rfl⟩, xs, hS, hi, hl, hk⟩
      have hr := run_endLoop (P := Try.prog) hl (by rw [k1]; simp)
      rw [k2] at hr
      exact ⟨none, _, hr, hdone _ xs _ (Nat.le_refl _) hS (hIp _ _ _ _ _ (by omega) hl rfl hi) ((World.putObj_heap_other (by omega)).trans hk)⟩
end Go.Proofs.Ytodlofabffenoaa
namespace Go.Proofs.Ytodlofabffenoaa
open Go.ChangeShapes Go.WideShapes Go.ChangeAt Go.RowKit
set_option linter.unusedVariables false
set_option linter.unusedSimpArgs false
set_option maxRecDepth 4000
theorem wpListIn_load_row {F : Fence} {n : Nat} {P : Program} {ops : Array Oper} {rest : List Oper} {o : Oper} {a : Act} {w : World} {Q : Exit → Act → World → Prop} (hgd : o.guard = none) (ty : TypeId) (x : Operand) (ho : o.op = .load ty x)
    (g : Nat) (hx : a.eval x = .pointer (some ⟨g, 0, none⟩)) (t : TypeId) (cs : Array Value) (fr : Nat × Nat) (d : TypeDesc) (hg : w.heap[g]? = some (.cells cs t fr))
    (hu : P.underlying ty = some d) (hd : (match d with | .struct _ | .array _ _ => true | _ => false) = true) (hi : (P.info? ty).map (·.size) = some cs.size)
    (h : wpListIn F n P ops Q rest (a.put o.dst (.agg cs)) w) : wpListIn F n P ops Q (o :: rest) a w := by
  refine wpListIn_plain hgd fun K hK => ?_
  have hrun : (Instr.loadAt ty (.pointer (some ⟨g, 0, none⟩))).run P w = .ok (.agg cs) w := by
    simp only [Instr.loadAt, Instr.sureAddr, Sem.run_bind, Sem.run_pure, Result.andThen]
    exact run_loadVar_row w g t ty cs fr d hg hu hd hi
  unfold Oper.wpIn
  refine ⟨by simp [Oper.about, ho], ?_⟩
  rw [Oper.semAt_plain F _ _ (by rw [ho]; intro c hc; cases hc)]
  simp [execOp, ho, hx, hrun, Result.andThen]
  exact hK _ _ h
theorem wpListIn_store_row {F : Fence} {n : Nat} {P : Program} {ops : Array Oper} {rest : List Oper} {o : Oper} {a : Act} {w : World} {Q : Exit → Act → World → Prop} (hgd : o.guard = none) (ty : TypeId) (x y : Operand) (ho : o.op = .store ty x y)
    (g : Nat) (cells : Array Value) (hx : a.eval x = .pointer (some ⟨g, 0, none⟩)) (hy : a.eval y = .agg cells)
    (t : TypeId) (old : Array Value) (hg : w.heap[g]? = some (.cells old t (0, 0))) (hi : (P.info? ty).map (·.size) = some cells.size)
    (hold : old.size = cells.size) (h1 : cells.all (·.oneCell') = true)
    (h : wpListIn F n P ops Q rest (a.put o.dst undef) (w.setRow g cells)) : wpListIn F n P ops Q (o :: rest) a w := by
  refine wpListIn_plain hgd fun K hK => ?_
  have hrun : (Instr.storeAt ty (.pointer (some ⟨g, 0, none⟩)) (.agg cells)).run P w = .ok () (w.setRow g cells) := by
    simp only [Instr.storeAt, Instr.sureAddr, Sem.run_bind, Sem.run_pure, Result.andThen]
    exact run_storeVar_row w g t ty old cells hg hi hold h1
  unfold Oper.wpIn
  refine ⟨by simp [Oper.about, ho], ?_⟩
  rw [Oper.semAt_plain F _ _ (by rw [ho]; intro c hc; cases hc)]
  simp [execOp, ho, hx, hy, hrun, Result.andThen]
  exact hK _ _ h
def FitB (P : Nat) (q : List Int × List Int) : Prop := q.1.length = P + 1 ∧ q.2.length = P + 1 ∧ (∀ x ∈ q.1, 0 ≤ x ∧ x ≤ 100) ∧ (∀ x ∈ q.2, 0 ≤ x ∧ x ≤ 100)
theorem pad_tiny {xs : List Int} (h : ∀ x ∈ xs, 0 ≤ x ∧ x ≤ 100) : Tiny (pad25 xs) := by
  intro x hx
  unfold pad25 at hx
  rcases List.mem_append.1 hx with hx | hx
  · have := h x hx; omega
  · have := (List.mem_replicate.1 hx).2; omega
set_option maxRecDepth 100000 in
theorem FitB.key {P : Nat} {q : List Int × List Int} (hP : P ≤ 24) (h : FitB P q) : keyOf Try.prog 115 (.agg (i8s (plcL q.1 q.2)).toArray) = some (keyB (plcL q.1 q.2)) :=
  keyOf_plc _ _ (pad25_length _ (by have := h.1; omega)) (pad25_length _ (by have := h.2.1; omega)) (pad_tiny h.2.2.1) (pad_tiny h.2.2.2)
theorem pad_inj {xs ys : List Int} (hl : xs.length = ys.length) (e : pad25 xs = pad25 ys) : xs = ys := by
  unfold pad25 at e
  exact (List.append_inj e hl).1
set_option maxRecDepth 100000 in
theorem FitB.inj {P : Nat} {q r : List Int × List Int} (hP : P ≤ 24) (h : FitB P q) (k : FitB P r) (e : keyB (plcL q.1 q.2) = keyB (plcL r.1 r.2)) : q = r := by
  have a1 := pad25_length q.1 (by have := h.1; omega)
  have a2 := pad25_length q.2 (by have := h.2.1; omega)
  have b1 := pad25_length r.1 (by have := k.1; omega)
  have b2 := pad25_length r.2 (by have := k.2.1; omega)
  have e1 := keyB_inj _ _ _ _ a1 a2 (pad_tiny h.2.2.1) (pad_tiny h.2.2.2) b1 b2 (pad_tiny k.2.2.1) (pad_tiny k.2.2.2) e
  obtain ⟨p1, p2⟩ := List.append_inj e1 (by rw [a1, b1])
  exact Prod.ext (pad_inj (by rw [h.1, k.1]) p1) (pad_inj (by rw [h.2.1, k.2.1]) p2)
def SeenM (W : World) (b n P : Nat) (seen : List (List Int × List Int)) : Prop :=
  ∃ D : DataW Unit, W.ownsMap Try.prog 115 (plainElem Try.prog 4) b n D ∧ Maps.IsMap D ∧ ∀ q, FitB P q → D.atKey (keyB (plcL q.1 q.2)) (.lit (.bool false)) = .lit (.bool (decide (q ∈ seen)))
set_option maxRecDepth 100000 in
theorem SeenM.start (w : World) (P : Nat) : SeenM (w.alloc (.map #[] 0)) w.heap.size 0 P [] :=
  ⟨.map [], World.ownsMap_made w Try.prog 115 (plainElem Try.prog 4), Maps.isMap_empty, fun q _ => by simp; rfl⟩
theorem SeenM.keep {W W' : World} {b n P : Nat} {seen : List (List Int × List Int)} (h : SeenM W b n P seen) (e : W'.heap[b]? = W.heap[b]?) : SeenM W' b n P seen := by
  obtain ⟨D, ⟨es, clock, h1, h2, h3, h4⟩, hm, hq⟩ := h
  exact ⟨D, ⟨es, clock, e.trans h1, h2, h3, h4⟩, hm, hq⟩
theorem SeenM.lt {W : World} {b n P : Nat} {seen : List (List Int × List Int)} (h : SeenM W b n P seen) : b < W.heap.size := by
  obtain ⟨D, ⟨es, clock, h1, _⟩, _⟩ := h
  exact (Array.getElem?_eq_some_iff.1 h1).1
theorem SeenM.more {W : World} {b n m P : Nat} {seen : List (List Int × List Int)} (h : SeenM W b n P seen) (hm : n ≤ m) : SeenM W b m P seen := by
  obtain ⟨D, ⟨es, clock, h1, h2, h3, h4⟩, hm', hq⟩ := h
  exact ⟨D, ⟨es, clock, h1, h2, by omega, h4⟩, hm', hq⟩
set_option maxRecDepth 100000 in
theorem SeenM.look {W : World} {b n P : Nat} {seen : List (List Int × List Int)} (h : SeenM W b n P seen) (hP : P ≤ 24) {q : List Int × List Int} (hq : FitB P q) :
    (Instr.lookup 111 (.map (some b)) (.agg (i8s (plcL q.1 q.2)).toArray) false).run Try.prog W = .ok (.bool (decide (q ∈ seen))) W := by
  obtain ⟨D, hown, hm, hat⟩ := h
  obtain ⟨v, ps, hrun, hv⟩ := hown.lookup plcKeyed Try.underlying111 (z := .bool false) (by kernel_rfl) (plainElem_bool Try.underlying4 false) (hq.key hP)
  rw [hat q hq] at hv
  have : v = .bool (decide (q ∈ seen)) := by
    unfold plainElem at hv
    rw [Try.underlying4] at hv
    cases v <;> simp_all
  rw [this] at hrun
  exact hrun
set_option maxRecDepth 100000 in
theorem SeenM.put {W : World} {b n P : Nat} {seen : List (List Int × List Int)} (h : SeenM W b n P seen) (hP : P ≤ 24) (hn : n < maxLen) {q : List Int × List Int} (hq : FitB P q) :
    ∃ w', (Instr.mapUpdate 111 (.map (some b)) (.agg (i8s (plcL q.1 q.2)).toArray) (.bool true)).run Try.prog W = .ok () w' ∧ SeenM w' b (n + 1) P (seen ++ [q]) ∧ W.grownBy w' (some b) := by
  obtain ⟨D, hown, hm, hat⟩ := h
  obtain ⟨w', hrun, hown', hg⟩ := hown.update plcKeyed Try.underlying111 hn (hq.key hP) (plainElem_bool Try.underlying4 true)
  refine ⟨w', hrun, ⟨_, hown', hm.put _ _, fun r hr => ?_⟩, hg⟩
  by_cases e : r = q
  · subst e
    rw [Maps.atKey_put_same hm (plcKeyed.key (hr.key hP))]
    simp
  · rw [Maps.atKey_put_other (fun hk => e (FitB.inj hP hr hq hk)), hat r hr]
    simp [e]
theorem Blk.put {X : World} {g l : Nat} {vs : Array Value} {t : TypeId} {o o' : Obj} (h : Blk X g vs t) (hl : X.heap[l]? = some o) (ho : o.isCells = false) : Blk (X.putObj l o') g vs t := by
  have hne : g ≠ l := by
    intro e
    subst e
    have h' : X.heap[g]? = some (.cells vs t (0, 0)) := h
    rw [h'] at hl
    simp at hl
    subst hl
    simp [Obj.isCells] at ho
  exact (World.putObj_heap_other hne).trans h
theorem VRow.put {X : World} {g l : Nat} {vs : List Value} {t : TypeId} {o o' : Obj} (h : VRow X g vs t) (hl : X.heap[l]? = some o) (ho : o.isCells = false) : VRow (X.putObj l o') g vs t := by
  obtain ⟨cur, hB, h1, h2⟩ := h
  exact ⟨cur, hB.put hl ho, h1, h2⟩
theorem Row.put {X : World} {g l : Nat} {xs : List Int} {o o' : Obj} (h : Row X g xs) (hl : X.heap[l]? = some o) (ho : o.isCells = false) : Row (X.putObj l o') g xs := by
  obtain ⟨cur, hB, h1, h2⟩ := h
  exact ⟨cur, hB.put hl ho, h1, h2⟩
theorem PAt.put {lo hi : Nat} {X : World} {x : PP} {l : Nat} {o o' : Obj} (h : PAt lo hi X x) (hl : X.heap[l]? = some o) (ho : o.isCells = false) : PAt lo hi (X.putObj l o') x := by
  refine ⟨?_, ?_⟩
  · rcases h.1 with h | ⟨g, e, h1, h2, r⟩
    · exact .inl h
    · exact .inr ⟨g, e, h1, h2, VRow.put r hl ho⟩
  · rcases h.2 with h | ⟨g1, g2, e1, e2, hne, b1, b2, b3, b4, r1, r2⟩
    · exact .inl h
    · exact .inr ⟨g1, g2, e1, e2, hne, b1, b2, b3, b4, r1.put hl ho, r2.put hl ho⟩
theorem OwnP.put {X : World} {base l : Nat} {v : Value} {L : List PP} {o o' : Obj} (h : OwnP X base v L) (hl : X.heap[l]? = some o) (ho : o.isCells = false) : OwnP (X.putObj l o') base v L := by
  obtain ⟨h1, h2 | ⟨g, cap, cur, hv, hb, hh, hc, hm, hs, ht⟩⟩ := h
  · exact ⟨h1, .inl h2⟩
  · exact ⟨h1, .inr ⟨g, cap, cur, hv, hb, Blk.put (g := g) (vs := cur) hh hl ho, hc, hm, hs, ht⟩⟩
end Go.Proofs.Ytodlofabffenoaa
namespace Go.Proofs.Ytodlofabffenoaa
open Go.ChangeShapes Go.WideShapes Go.ChangeAt Go.RowKit
set_option linter.unusedVariables false
set_option linter.unusedSimpArgs false
theorem OPl.keep {lo hi : Nat} {w w' : World} {a : Option Addr} {l : List PP} (h : OPl lo hi w a l) (hhi : hi ≤ w.heap.size) {v : Value} (hne : ∀ g, a = some ⟨g, 0, none⟩ → v.ownBlock ≠ some g) (hk : ∀ k, k < w.heap.size → v.ownBlock ≠ some k → w'.heap[k]? = w.heap[k]?) : OPl lo hi w' a l := by
  rcases h with h | ⟨g, e, h1, h2, cs, hB, q1, q2⟩
  · exact .inl h
  · exact .inr ⟨g, e, h1, h2, cs, (hk g (by omega) (hne g e)).trans hB, q1, q2⟩
def OutP (b o : Nat) (w : World) (v : Value) (l : List PP) : Prop := (l = [] ∧ v = .slice (some ⟨o, 0, none⟩) 0 0) ∨ OwnP w b v l
theorem OutP.form {b o : Nat} {w : World} {v : Value} {l : List PP} (h : OutP b o w v l) : ∃ a k, v = .slice a l.length k := by
  rcases h with ⟨rfl, h⟩ | h
  · exact ⟨_, 0, h⟩
  · exact h.form
theorem OutP.below {b o : Nat} {w w' : World} {v : Value} {l : List PP} (h : OutP b o w v l) (hb : Below w.heap.size w w') : OutP b o w' v l := by
  rcases h with h | h
  · exact .inl h
  · exact .inr (h.below hb)
theorem OutP.opl {b o n k : Nat} {w : World} {a : Option Addr} {l : List PP} (h : OutP b o w (.slice a n k) l) (hO : OwnP w o (.slice (some ⟨o, 0, none⟩) 0 0) []) (hbo : o ≤ b) : OPl o w.heap.size w a l := by
  rcases h with ⟨rfl, h⟩ | h
  · have := hO.opl
    injection h with h1 h2 h3
    rw [h1]
    exact this
  · exact h.opl.mono hbo (Nat.le_refl _)
theorem OutP.ne {b o g : Nat} {w : World} {v : Value} {l : List PP} (h : OutP b o w v l) (hg : w.heap.size ≤ g) (ho : o < w.heap.size) : v.ownBlock ≠ some g := by
  rcases h with ⟨-, rfl⟩ | h
  · simp [Value.ownBlock]; omega
  · intro e
    have := (World.ownsRow.lt h g e).2
    omega
end Go.Proofs.Ytodlofabffenoaa
