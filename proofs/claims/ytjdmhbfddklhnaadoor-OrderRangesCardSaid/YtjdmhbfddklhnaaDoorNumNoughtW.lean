/-
  The walk of the law NumberNoughts over contracts of the program's package number. Conditions: those contracts.
-/
import Derived.Test.YtjdmhbfddklhnaaDoorNumMinusW
set_option linter.unusedSimpArgs false
set_option linter.unusedVariables false
namespace Go.Proofs.YtjdmhbfddklhnaaDoor
open Go Go.Proofs Go.RowKit Num9

theorem named9 (n : Nat) : ∃ m : Nat, Hid (m = n) := ⟨n, Lib.hid rfl⟩

end Go.Proofs.YtjdmhbfddklhnaaDoor
