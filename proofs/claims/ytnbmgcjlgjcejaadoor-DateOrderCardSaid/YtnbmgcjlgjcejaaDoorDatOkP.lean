/-
  The program's package date keeps the contracts of Get and Clock. No conditions.
-/
import Derived.Test.YtnbmgcjlgjcejaaDoorDatP4
import Derived.Test.YtnbmgcjlgjcejaaDoorDatOk
set_option linter.unusedVariables false
namespace Go.Proofs.YtnbmgcjlgjcejaaDoor
open Go Go.Proofs Go.RowKit Dat

theorem dateOk : DateOk where
  get A n c l w hr hn hc := pGet_any A n c l w hr hn
  clock A n c l w hr hn hc := pClock_any A n c l w hr hn
end Go.Proofs.YtnbmgcjlgjcejaaDoor
