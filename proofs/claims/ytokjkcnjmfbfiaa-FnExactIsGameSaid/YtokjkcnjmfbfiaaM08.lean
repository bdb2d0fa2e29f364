/- Plain mathematics of games: the result of a board that is over, games. -/
import Derived.Test.YtokjkcnjmfbfiaaM02
namespace Go.Proofs.Ytokjkcnjmfbfiaa
set_option linter.unusedVariables false
set_option linter.unusedSimpArgs false

/-- The result of a board that is over. -/
def resV (p c h : Int) (xs ys : List Int) : Int :=
  if (if xs.sum = 0 then ys else xs).sum < c then 1
  else if p - h ≤ lastL (if xs.sum = 0 then ys else xs) (if xs.sum = 0 then ys else xs).length then 3 else 2
/-- A game: both sides of its board, the player, the roll, the phase, the winner, the result, the turns. -/
structure Gm where
  xs : List Int
  ys : List Int
  pl : Int
  ra : Int
  rb : Int
  ph : Int
  wi : Int
  re : Int
  tu : Int
deriving DecidableEq
def gm0 : Gm := ⟨[], [], 0, 0, 0, 0, 0, 0, 0⟩
end Go.Proofs.Ytokjkcnjmfbfiaa
