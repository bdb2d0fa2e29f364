/- Contract of the program's board ahead of a step. -/
import Derived.Test.Ytokjkcnjmfbfiaa04u
namespace Go.Proofs.Ytokjkcnjmfbfiaa
open Go.ChangeShapes Go.WideShapes Go.ChangeAt Go.RowKit
set_option linter.unusedVariables false
set_option linter.unusedSimpArgs false
set_option maxRecDepth 4000

/-- The board ahead of a step is the one from which it leads here. -/
def udOk (p c h s : Int) (xs ys : List Int) (t : Stp) : Bool := placesB p t && lgB p c h s (mvX xs t.1 t.2.1 (-1)) (mvY p.toNat ys t.2.1 t.2.2.2 (-1)) t
def udX (p c h s : Int) (xs ys : List Int) (t : Stp) : List Int := if isB p c h s xs ys = true then (if udOk p c h s xs ys t = true then mvX xs t.1 t.2.1 (-1) else []) else []
def udY (p c h s : Int) (xs ys : List Int) (t : Stp) : List Int := if isB p c h s xs ys = true then (if udOk p c h s xs ys t = true then mvY p.toNat ys t.2.1 t.2.2.2 (-1) else []) else []
def udR (p c h s : Int) (xs ys : List Int) (t : Stp) : Int := if isB p c h s xs ys = true then (if udOk p c h s xs ys t = true then 0 else 4) else 1
theorem ud_length (p c h s : Int) (xs ys : List Int) (t : Stp) : (udX p c h s xs ys t).length ≤ 1048576 ∧ (udY p c h s xs ys t).length ≤ 1048576 := by
  unfold udX udY
  split
  · rename_i g
    obtain ⟨p0, p1, k0, k1, k2, k3, N1, N2, hx, hy, s0, s1, s2, s3⟩ := isB_parts g
    split
    · rw [mvX_length, mvY_length]
      omega
    · simp
  · simp
theorem below2u {wS W : World} {B : Nat} {u0 u1 v0 v1 : Value} {t : TypeId} (_ : Blk W B #[u0, u1] t) (h : Below wS.heap.size wS W) (hB : wS.heap.size ≤ B) : Below wS.heap.size wS ((W.setCell ⟨B, 0, none⟩ v0).setCell ⟨B, 1, none⟩ v1) :=
  (h.setCell (p := ⟨B, 0, none⟩) hB _).setCell (p := ⟨B, 1, none⟩) hB _
end Go.Proofs.Ytokjkcnjmfbfiaa
