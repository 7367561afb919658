/-
  DERIVED. GIVEN WITH THE SEED: THE CARDS: each row of YtnbmgcjlgjcejaaDoorRows.lean that lists a variable, with what it lists TIED to the program's text (the seventh form; the later family's looks); each row that meets fmt, with fmt's text TOLD by the authors' own Lean function (tested against real Go, not proved from fmt's source: count such statements apart). THE CARD IS WHAT COUNTS. Prove the row's statement (the work); the ties are given (YtnbmgcjlgjcejaaDoorTie.lean); close each card by the builder's one call (the guide's Derived/Test/ToyasCard.lean, 'card_holds'). Laid BY PROGRAM, IN A SANDBOX (cutbox-door.mjs). By AI agents, Wed Nov 11 2026. No macro, syntax, notation, axiom, sorry.
-/
import Derived.Test.YtnbmgcjlgjcejaaDoorRows
import GoSem.ClaimSeven
namespace Go.Proofs.YtnbmgcjlgjcejaaDoor
namespace Rows

/-- THE TIED CARD OF 'greffierlaw10.DateBack'. -/
def dateBackCard : Claim7 := { stood := { row := dateBackRow, standIns := [], harness := (true, "50d0543d73eda690b332ad6b790430b4f4c0ef7c50c7927fff9ebca3fd28c3bc"), looks := false }, kinds := [], alts := [], laidByText := true, laidKinds := [.data, .data, .data], laidTests := true, laidLooks := .later }
def DateBackCardSaid : Prop := Claim7.holds Tryd.pinned (.plain (OpenSpec.ofChange dateBackSpec)) dateBackCard

/-- THE TIED CARD OF 'greffierlaw10.DateOrder'. -/
def dateOrderCard : Claim7 := { stood := { row := dateOrderRow, standIns := [], harness := (true, "50d0543d73eda690b332ad6b790430b4f4c0ef7c50c7927fff9ebca3fd28c3bc"), looks := false }, kinds := [], alts := [], laidByText := true, laidKinds := [.data, .data, .data], laidTests := true, laidLooks := .later }
def DateOrderCardSaid : Prop := Claim7.holds Tryd.pinned (.plain (OpenSpec.ofChange dateOrderSpec)) dateOrderCard

/-- THE TIED CARD OF 'greffierlaw10.DateClock'. -/
def dateClockCard : Claim7 := { stood := { row := dateClockRow, standIns := [], harness := (true, "50d0543d73eda690b332ad6b790430b4f4c0ef7c50c7927fff9ebca3fd28c3bc"), looks := false }, kinds := [], alts := [], laidByText := true, laidKinds := [.data, .data, .data], laidTests := true, laidLooks := .later }
def DateClockCardSaid : Prop := Claim7.holds Tryd.pinned (.plain (OpenSpec.ofChange dateClockSpec)) dateClockCard

/-- THE SECOND FORM's CARD OF 'greffierlaw10.DateBack'. -/
def dateBackUptoCard : Claim7 := { stood := { row := dateBackUptoRow, standIns := [], harness := (true, "50d0543d73eda690b332ad6b790430b4f4c0ef7c50c7927fff9ebca3fd28c3bc"), looks := false }, kinds := [], alts := [], laidByText := true, laidKinds := [.data, .data, .data], laidTests := true, laidLooks := .later }
def DateBackUptoCardSaid : Prop := Claim7.holds Tryd.pinned (.plain (OpenSpec.upto dateBackSpec)) dateBackUptoCard

/-- THE SECOND FORM's CARD OF 'greffierlaw10.DateOrder'. -/
def dateOrderUptoCard : Claim7 := { stood := { row := dateOrderUptoRow, standIns := [], harness := (true, "50d0543d73eda690b332ad6b790430b4f4c0ef7c50c7927fff9ebca3fd28c3bc"), looks := false }, kinds := [], alts := [], laidByText := true, laidKinds := [.data, .data, .data], laidTests := true, laidLooks := .later }
def DateOrderUptoCardSaid : Prop := Claim7.holds Tryd.pinned (.plain (OpenSpec.upto dateOrderSpec)) dateOrderUptoCard

/-- THE SECOND FORM's CARD OF 'greffierlaw10.DateClock'. -/
def dateClockUptoCard : Claim7 := { stood := { row := dateClockUptoRow, standIns := [], harness := (true, "50d0543d73eda690b332ad6b790430b4f4c0ef7c50c7927fff9ebca3fd28c3bc"), looks := false }, kinds := [], alts := [], laidByText := true, laidKinds := [.data, .data, .data], laidTests := true, laidLooks := .later }
def DateClockUptoCardSaid : Prop := Claim7.holds Tryd.pinned (.plain (OpenSpec.upto dateClockSpec)) dateClockUptoCard
end Rows
end Go.Proofs.YtnbmgcjlgjcejaaDoor
