/-
  DERIVED. GIVEN WITH THE SEED: THE CARDS: each row of YtjiadbaaggifpaaDoorRows.lean that lists a variable, with what it lists TIED to the program's text (the seventh form; the later family's looks); each row that meets fmt, with fmt's text TOLD by the authors' own Lean function (tested against real Go, not proved from fmt's source: count such statements apart). THE CARD IS WHAT COUNTS. Prove the row's statement (the work); the ties are given (YtjiadbaaggifpaaDoorTie.lean); close each card by the builder's one call (the guide's Derived/Test/ToyasCard.lean, 'card_holds'). Laid BY PROGRAM, IN A SANDBOX (cutbox-door.mjs). By AI agents, Wed Nov 11 2026. No macro, syntax, notation, axiom, sorry.
-/
import Derived.Test.YtjiadbaaggifpaaDoorRows
import GoSem.ClaimSeven
namespace Go.Proofs.YtjiadbaaggifpaaDoor
namespace Rows

/-- THE TIED CARD OF 'greffierlaw07.PointGets'. -/
def pointGetsCard : Claim7 := { stood := { row := pointGetsRow, standIns := [], harness := (true, "a94dcc428eebc69afee592bc11187e2b35f8b23470539eb9a47421d105afc4e5"), looks := false }, kinds := [], alts := [], laidByText := true, laidKinds := [.data, .data], laidTests := true, laidLooks := .later }
def PointGetsCardSaid : Prop := Claim7.holds Tryd.pinned (.plain (OpenSpec.ofChange pointGetsSpec)) pointGetsCard

/-- THE TIED CARD OF 'greffierlaw07.PointAdds'. -/
def pointAddsCard : Claim7 := { stood := { row := pointAddsRow, standIns := [], harness := (true, "a94dcc428eebc69afee592bc11187e2b35f8b23470539eb9a47421d105afc4e5"), looks := false }, kinds := [], alts := [], laidByText := true, laidKinds := [.data, .data], laidTests := true, laidLooks := .later }
def PointAddsCardSaid : Prop := Claim7.holds Tryd.pinned (.plain (OpenSpec.ofChange pointAddsSpec)) pointAddsCard

/-- THE TIED CARD OF 'greffierlaw07.PointTimes'. -/
def pointTimesCard : Claim7 := { stood := { row := pointTimesRow, standIns := [], harness := (true, "a94dcc428eebc69afee592bc11187e2b35f8b23470539eb9a47421d105afc4e5"), looks := false }, kinds := [], alts := [], laidByText := true, laidKinds := [.data, .data], laidTests := true, laidLooks := .later }
def PointTimesCardSaid : Prop := Claim7.holds Tryd.pinned (.plain (OpenSpec.ofChange pointTimesSpec)) pointTimesCard

/-- THE TIED CARD OF 'greffierlaw07.PointLaws'. -/
def pointLawsCard : Claim7 := { stood := { row := pointLawsRow, standIns := [], harness := (true, "a94dcc428eebc69afee592bc11187e2b35f8b23470539eb9a47421d105afc4e5"), looks := false }, kinds := [], alts := [], laidByText := true, laidKinds := [.data, .data], laidTests := true, laidLooks := .later }
def PointLawsCardSaid : Prop := Claim7.holds Tryd.pinned (.plain (OpenSpec.ofChange pointLawsSpec)) pointLawsCard

/-- THE TIED CARD OF 'greffierlaw07.PointParts'. -/
def pointPartsCard : Claim7 := { stood := { row := pointPartsRow, standIns := [], harness := (true, "a94dcc428eebc69afee592bc11187e2b35f8b23470539eb9a47421d105afc4e5"), looks := false }, kinds := [], alts := [], laidByText := true, laidKinds := [.data, .data, .data], laidTests := true, laidLooks := .later }
def PointPartsCardSaid : Prop := Claim7.holds Tryd.pinned (.plain (OpenSpec.ofChange pointPartsSpec)) pointPartsCard

/-- THE TIED CARD OF 'greffierlaw07.PointCounts'. -/
def pointCountsCard : Claim7 := { stood := { row := pointCountsRow, standIns := [], harness := (true, "a94dcc428eebc69afee592bc11187e2b35f8b23470539eb9a47421d105afc4e5"), looks := false }, kinds := [], alts := [], laidByText := true, laidKinds := [.data, .data], laidTests := true, laidLooks := .later }
def PointCountsCardSaid : Prop := Claim7.holds Tryd.pinned (.plain (OpenSpec.ofChange pointCountsSpec)) pointCountsCard

/-- THE SECOND FORM's CARD OF 'greffierlaw07.PointGets'. -/
def pointGetsUptoCard : Claim7 := { stood := { row := pointGetsUptoRow, standIns := [], harness := (true, "a94dcc428eebc69afee592bc11187e2b35f8b23470539eb9a47421d105afc4e5"), looks := false }, kinds := [], alts := [], laidByText := true, laidKinds := [.data, .data], laidTests := true, laidLooks := .later }
def PointGetsUptoCardSaid : Prop := Claim7.holds Tryd.pinned (.plain (OpenSpec.upto pointGetsSpec)) pointGetsUptoCard

/-- THE SECOND FORM's CARD OF 'greffierlaw07.PointAdds'. -/
def pointAddsUptoCard : Claim7 := { stood := { row := pointAddsUptoRow, standIns := [], harness := (true, "a94dcc428eebc69afee592bc11187e2b35f8b23470539eb9a47421d105afc4e5"), looks := false }, kinds := [], alts := [], laidByText := true, laidKinds := [.data, .data], laidTests := true, laidLooks := .later }
def PointAddsUptoCardSaid : Prop := Claim7.holds Tryd.pinned (.plain (OpenSpec.upto pointAddsSpec)) pointAddsUptoCard

/-- THE SECOND FORM's CARD OF 'greffierlaw07.PointTimes'. -/
def pointTimesUptoCard : Claim7 := { stood := { row := pointTimesUptoRow, standIns := [], harness := (true, "a94dcc428eebc69afee592bc11187e2b35f8b23470539eb9a47421d105afc4e5"), looks := false }, kinds := [], alts := [], laidByText := true, laidKinds := [.data, .data], laidTests := true, laidLooks := .later }
def PointTimesUptoCardSaid : Prop := Claim7.holds Tryd.pinned (.plain (OpenSpec.upto pointTimesSpec)) pointTimesUptoCard

/-- THE SECOND FORM's CARD OF 'greffierlaw07.PointLaws'. -/
def pointLawsUptoCard : Claim7 := { stood := { row := pointLawsUptoRow, standIns := [], harness := (true, "a94dcc428eebc69afee592bc11187e2b35f8b23470539eb9a47421d105afc4e5"), looks := false }, kinds := [], alts := [], laidByText := true, laidKinds := [.data, .data], laidTests := true, laidLooks := .later }
def PointLawsUptoCardSaid : Prop := Claim7.holds Tryd.pinned (.plain (OpenSpec.upto pointLawsSpec)) pointLawsUptoCard

/-- THE SECOND FORM's CARD OF 'greffierlaw07.PointParts'. -/
def pointPartsUptoCard : Claim7 := { stood := { row := pointPartsUptoRow, standIns := [], harness := (true, "a94dcc428eebc69afee592bc11187e2b35f8b23470539eb9a47421d105afc4e5"), looks := false }, kinds := [], alts := [], laidByText := true, laidKinds := [.data, .data, .data], laidTests := true, laidLooks := .later }
def PointPartsUptoCardSaid : Prop := Claim7.holds Tryd.pinned (.plain (OpenSpec.upto pointPartsSpec)) pointPartsUptoCard

/-- THE SECOND FORM's CARD OF 'greffierlaw07.PointCounts'. -/
def pointCountsUptoCard : Claim7 := { stood := { row := pointCountsUptoRow, standIns := [], harness := (true, "a94dcc428eebc69afee592bc11187e2b35f8b23470539eb9a47421d105afc4e5"), looks := false }, kinds := [], alts := [], laidByText := true, laidKinds := [.data, .data], laidTests := true, laidLooks := .later }
def PointCountsUptoCardSaid : Prop := Claim7.holds Tryd.pinned (.plain (OpenSpec.upto pointCountsSpec)) pointCountsUptoCard
end Rows
end Go.Proofs.YtjiadbaaggifpaaDoor
