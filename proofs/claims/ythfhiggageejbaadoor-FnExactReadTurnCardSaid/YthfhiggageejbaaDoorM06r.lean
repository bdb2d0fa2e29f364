/- Plain mathematics of the text of a roll. -/
import Derived.Test.YthfhiggageejbaaDoor05h0
namespace Go.Proofs.YthfhiggageejbaaDoor
set_option linter.unusedVariables false
set_option linter.unusedSimpArgs false

/-- What is read from the text of a roll. -/
def rdR (s : Int) (l : List UInt8) : Option (Int × Int) :=
  if l.length = 2 ∧ rlB s (((l.getD 0 0).toNat : Int) - 48) (((l.getD 1 0).toNat : Int) - 48) = true then some (((l.getD 0 0).toNat : Int) - 48, ((l.getD 1 0).toNat : Int) - 48) else none
end Go.Proofs.YthfhiggageejbaaDoor
