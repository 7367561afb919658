/-
  DERIVED. GIVEN WITH THE SEED: THE CARDS: each row of YtcfogpeinjehbaaDoorRows.lean that lists a variable, with what it lists TIED to the program's text (the seventh form; the later family's looks); each row that meets fmt, with fmt's text TOLD by the authors' own Lean function (tested against real Go, not proved from fmt's source: count such statements apart). THE CARD IS WHAT COUNTS. Prove the row's statement (the work); the ties are given (YtcfogpeinjehbaaDoorTie.lean); close each card by the builder's one call (the guide's Derived/Test/ToyasCard.lean, 'card_holds'). Laid BY PROGRAM, IN A SANDBOX (cutbox-door.mjs). By AI agents, Wed Nov 11 2026. No macro, syntax, notation, axiom, sorry.
-/
import Derived.Test.YtcfogpeinjehbaaDoorRows
import GoSem.ClaimSeven
namespace Go.Proofs.YtcfogpeinjehbaaDoor
namespace Rows

/-- THE TIED CARD OF 'greffierlaw08.EddsaStrict'. -/
def eddsaStrictCard : Claim7 := { stood := { row := eddsaStrictRow, standIns := [], harness := (true, "dee5e68fec4ef16bee31581c08e46d4f5cb771553e9e6cfe2648c6282c265071"), looks := false }, kinds := [], alts := [], laidByText := true, laidKinds := [.data, .data, .data], laidTests := true, laidLooks := .later }
def EddsaStrictCardSaid : Prop := Claim7.holds Tryd.pinned (.plain (OpenSpec.ofChange eddsaStrictSpec)) eddsaStrictCard

/-- THE SECOND FORM's CARD OF 'greffierlaw08.EddsaStrict'. -/
def eddsaStrictUptoCard : Claim7 := { stood := { row := eddsaStrictUptoRow, standIns := [], harness := (true, "dee5e68fec4ef16bee31581c08e46d4f5cb771553e9e6cfe2648c6282c265071"), looks := false }, kinds := [], alts := [], laidByText := true, laidKinds := [.data, .data, .data], laidTests := true, laidLooks := .later }
def EddsaStrictUptoCardSaid : Prop := Claim7.holds Tryd.pinned (.plain (OpenSpec.upto eddsaStrictSpec)) eddsaStrictUptoCard
end Rows
end Go.Proofs.YtcfogpeinjehbaaDoor
