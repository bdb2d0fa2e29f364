/- Contracts of the model on all plays of a roll with their code, and on forced plays. -/
import Derived.Test.YtknkbhmgdddjkaaGreatY14
import Derived.Test.YtknkbhmgdddjkaaGreatY16
namespace Go.Proofs.YtknkbhmgdddjkaaGreat
open Go.ChangeShapes Go.WideShapes Go.ChangeAt Go.RowKit
set_option linter.unusedVariables false
set_option linter.unusedSimpArgs false
set_option maxRecDepth 4000

/-- The code of all plays of a roll, and the plays. -/
def apC (p c h s : Int) (xs ys : List Int) (ra rb : Int) : Int := if codeB p c h s xs ys ra rb = 0 then (if allOk p.toNat h xs ys ra rb = true then 0 else 3) else codeB p c h s xs ys ra rb
def apL (p c h s : Int) (xs ys : List Int) (ra rb : Int) : List Ply := if codeB p c h s xs ys ra rb = 0 then (if allOk p.toNat h xs ys ra rb = true then allP p.toNat h xs ys ra rb else []) else []
/-- Plays have been made and are handed back, beside a code. -/
def PlaysGot2 (ps : List Ply) (r : Int) (w : World) (e : Ending) (w' : World) : Prop :=
  ∃ (a : Option Addr) (k : Nat) (l : List PP), e = .returned (.tuple #[.slice a l.length k, .int .i64 r]) ∧ l.map Prod.snd = ps ∧ OPl w.heap.size w'.heap.size w' a l ∧ PAll w.heap.size w'.heap.size w' l ∧ Below w.heap.size w w'
theorem codeB_zero {p c h s : Int} {xs ys : List Int} {ra rb : Int} (g : codeB p c h s xs ys ra rb = 0) : isB p c h s xs ys = true ∧ rlB s ra rb = true := by
  unfold codeB at g
  split at g
  · rename_i h1
    split at g
    · rename_i h2
      exact ⟨h1, h2⟩
    · omega
  · omega
end Go.Proofs.YtknkbhmgdddjkaaGreat
