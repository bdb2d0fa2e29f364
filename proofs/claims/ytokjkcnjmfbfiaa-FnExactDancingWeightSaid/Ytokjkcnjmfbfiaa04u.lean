/- Contracts of the program's board behind a step. -/
import Derived.Test.Ytokjkcnjmfbfiaa04n
namespace Go.Proofs.Ytokjkcnjmfbfiaa
open Go.ChangeShapes Go.WideShapes Go.ChangeAt Go.RowKit
set_option linter.unusedVariables false
set_option linter.unusedSimpArgs false
set_option maxRecDepth 4000

theorem four_new (w : World) (v1 v2 v3 v4 : Array Value) (t1 t2 t3 t4 : TypeId) :
    Blk ((((w.alloc (.cells v1 t1)).alloc (.cells v2 t2)).alloc (.cells v3 t3)).alloc (.cells v4 t4)) w.heap.size v1 t1 ∧ Blk ((((w.alloc (.cells v1 t1)).alloc (.cells v2 t2)).alloc (.cells v3 t3)).alloc (.cells v4 t4)) (w.heap.size + 1) v2 t2 ∧
    Blk ((((w.alloc (.cells v1 t1)).alloc (.cells v2 t2)).alloc (.cells v3 t3)).alloc (.cells v4 t4)) (w.heap.size + 1 + 1) v3 t3 ∧ Blk ((((w.alloc (.cells v1 t1)).alloc (.cells v2 t2)).alloc (.cells v3 t3)).alloc (.cells v4 t4)) (w.heap.size + 1 + 1 + 1) v4 t4 ∧
    Below w.heap.size w ((((w.alloc (.cells v1 t1)).alloc (.cells v2 t2)).alloc (.cells v3 t3)).alloc (.cells v4 t4)) ∧ ((((w.alloc (.cells v1 t1)).alloc (.cells v2 t2)).alloc (.cells v3 t3)).alloc (.cells v4 t4)).heap.size = w.heap.size + 1 + 1 + 1 + 1 := by
  obtain ⟨b1, b2, b3, hb, hz⟩ := three_new w v1 v2 v3 t1 t2 t3
  have b4 := Blk.new (((w.alloc (.cells v1 t1)).alloc (.cells v2 t2)).alloc (.cells v3 t3)) v4 t4
  rw [hz] at b4
  exact ⟨b1.alloc _, b2.alloc _, b3.alloc _, b4, hb.alloc hb.size _, by simp⟩
/-- A board and a number have been made and are handed back. -/
def BoardGotN (xs ys : List Int) (r : Int) (w : World) (e : Ending) (w' : World) : Prop :=
  ∃ a1 a2 k1 k2, e = .returned (.tuple #[.agg #[.slice a1 xs.length k1, .slice a2 ys.length k2], .int .i64 r]) ∧ OBd w.heap.size w'.heap.size w' a1 a2 xs ys ∧ Below w.heap.size w w'
def asX (p c h s : Int) (xs ys : List Int) (t : Stp) : List Int := if isB p c h s xs ys = true then (if legB p.toNat h s xs ys t = true then mvX xs t.1 t.2.1 1 else []) else []
def asY (p c h s : Int) (xs ys : List Int) (t : Stp) : List Int := if isB p c h s xs ys = true then (if legB p.toNat h s xs ys t = true then mvY p.toNat ys t.2.1 t.2.2.2 1 else []) else []
def asR (p c h s : Int) (xs ys : List Int) (t : Stp) : Int := if isB p c h s xs ys = true then (if legB p.toNat h s xs ys t = true then 0 else 5) else 1
theorem as_length (p c h s : Int) (xs ys : List Int) (t : Stp) : (asX p c h s xs ys t).length ≤ 1048576 ∧ (asY p c h s xs ys t).length ≤ 1048576 := by
  unfold asX asY
  split
  · rename_i g
    obtain ⟨p0, p1, k0, k1, k2, k3, N1, N2, hx, hy, s0, s1, s2, s3⟩ := isB_parts g
    split
    · rw [mvX_length, mvY_length]
      omega
    · simp
  · simp
theorem legB_places {P : Nat} {h s : Int} {xs ys : List Int} {t : Stp} (g : legB P h s xs ys t = true) : placesB (P : Int) t = true := by
  unfold legB at g
  simp only [Bool.and_eq_true] at g
  exact g.2.1
end Go.Proofs.Ytokjkcnjmfbfiaa
