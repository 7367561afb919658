/-
  DERIVED. GIVEN WITH THE SEED: THE CARDS: each row of YtcojkmcnigppbaaGreatDoorRows.lean that lists a variable, with what it lists TIED to the program's text (the seventh form; the later family's looks); each row that meets fmt, with fmt's text TOLD by the authors' own Lean function (tested against real Go, not proved from fmt's source: count such statements apart). THE CARD IS WHAT COUNTS. Prove the row's statement (the work); the ties are given (YtcojkmcnigppbaaGreatDoorTie.lean); close each card by the builder's one call (the guide's Derived/Test/ToyasCard.lean, 'card_holds'). Laid BY PROGRAM, IN A SANDBOX (cutbox-door.mjs). By AI agents, Wed Nov 11 2026. No macro, syntax, notation, axiom, sorry.
-/
import Derived.Test.YtcojkmcnigppbaaGreatDoorRows
import GoSem.ClaimSeven
namespace Go.Proofs.YtcojkmcnigppbaaGreatDoor
namespace Rows

/-- THE TIED CARD OF 'greffierlaw03.NotationPrints'. -/
def notationPrintsCard : Claim7 := { stood := { row := notationPrintsRow, standIns := [], harness := (true, "d812d081e52cbb5db2bfc2a84232516e73e0e6597321f593eda21a6e3f82762f"), looks := true }, kinds := [], alts := [], laidByText := true, laidKinds := [.data, .data, .data, .data, .pinned], laidTests := true, laidLooks := .later }
def NotationPrintsCardSaid : Prop := Claim7.holds Tryz.pinned (.plain (OpenSpec.ofChange notationPrintsSpec)) notationPrintsCard

/-- THE TIED CARD OF 'greffierlaw03.NotationReads'. -/
def notationReadsCard : Claim7 := { stood := { row := notationReadsRow, standIns := [], harness := (true, "d812d081e52cbb5db2bfc2a84232516e73e0e6597321f593eda21a6e3f82762f"), looks := true }, kinds := [], alts := [], laidByText := true, laidKinds := [.data, .data, .data, .data, .pinned], laidTests := true, laidLooks := .later }
def NotationReadsCardSaid : Prop := Claim7.holds Tryz.pinned (.plain (OpenSpec.ofChange notationReadsSpec)) notationReadsCard

/-- THE TIED CARD OF 'greffierlaw03.NotationUnpacks'. -/
def notationUnpacksCard : Claim7 := { stood := { row := notationUnpacksRow, standIns := [], harness := (true, "d812d081e52cbb5db2bfc2a84232516e73e0e6597321f593eda21a6e3f82762f"), looks := true }, kinds := [], alts := [], laidByText := true, laidKinds := [.data, .data, .data, .data, .pinned], laidTests := true, laidLooks := .later }
def NotationUnpacksCardSaid : Prop := Claim7.holds Tryz.pinned (.plain (OpenSpec.ofChange notationUnpacksSpec)) notationUnpacksCard

/-- THE TIED CARD OF 'greffierlaw03.NotationBoth'. -/
def notationBothCard : Claim7 := { stood := { row := notationBothRow, standIns := [], harness := (true, "d812d081e52cbb5db2bfc2a84232516e73e0e6597321f593eda21a6e3f82762f"), looks := true }, kinds := [], alts := [], laidByText := true, laidKinds := [.data, .data, .data, .data, .pinned], laidTests := true, laidLooks := .later }
def NotationBothCardSaid : Prop := Claim7.holds Tryz.pinned (.plain (OpenSpec.ofChange notationBothSpec)) notationBothCard

/-- THE TIED CARD OF 'greffierlaw03.NotationBlanks'. -/
def notationBlanksCard : Claim7 := { stood := { row := notationBlanksRow, standIns := [], harness := (true, "d812d081e52cbb5db2bfc2a84232516e73e0e6597321f593eda21a6e3f82762f"), looks := true }, kinds := [], alts := [], laidByText := true, laidKinds := [.data, .data, .data, .data, .pinned], laidTests := true, laidLooks := .later }
def NotationBlanksCardSaid : Prop := Claim7.holds Tryz.pinned (.plain (OpenSpec.ofChange notationBlanksSpec)) notationBlanksCard

/-- THE TIED CARD OF 'greffierlaw03.NotationAgrees'. -/
def notationAgreesCard : Claim7 := { stood := { row := notationAgreesRow, standIns := [], harness := (true, "d812d081e52cbb5db2bfc2a84232516e73e0e6597321f593eda21a6e3f82762f"), looks := true }, kinds := [], alts := [], laidByText := true, laidKinds := [.data, .data, .data, .data, .pinned], laidTests := true, laidLooks := .later }
def NotationAgreesCardSaid : Prop := Claim7.holds Tryz.pinned (.plain (OpenSpec.ofChange notationAgreesSpec)) notationAgreesCard

/-- THE SECOND FORM's CARD OF 'greffierlaw03.NotationPrints'. -/
def notationPrintsUptoCard : Claim7 := { stood := { row := notationPrintsUptoRow, standIns := [], harness := (true, "d812d081e52cbb5db2bfc2a84232516e73e0e6597321f593eda21a6e3f82762f"), looks := true }, kinds := [], alts := [], laidByText := true, laidKinds := [.data, .data, .data, .data, .pinned], laidTests := true, laidLooks := .later }
def NotationPrintsUptoCardSaid : Prop := Claim7.holds Tryz.pinned (.plain (OpenSpec.upto notationPrintsSpec)) notationPrintsUptoCard

/-- THE SECOND FORM's CARD OF 'greffierlaw03.NotationReads'. -/
def notationReadsUptoCard : Claim7 := { stood := { row := notationReadsUptoRow, standIns := [], harness := (true, "d812d081e52cbb5db2bfc2a84232516e73e0e6597321f593eda21a6e3f82762f"), looks := true }, kinds := [], alts := [], laidByText := true, laidKinds := [.data, .data, .data, .data, .pinned], laidTests := true, laidLooks := .later }
def NotationReadsUptoCardSaid : Prop := Claim7.holds Tryz.pinned (.plain (OpenSpec.upto notationReadsSpec)) notationReadsUptoCard

/-- THE SECOND FORM's CARD OF 'greffierlaw03.NotationUnpacks'. -/
def notationUnpacksUptoCard : Claim7 := { stood := { row := notationUnpacksUptoRow, standIns := [], harness := (true, "d812d081e52cbb5db2bfc2a84232516e73e0e6597321f593eda21a6e3f82762f"), looks := true }, kinds := [], alts := [], laidByText := true, laidKinds := [.data, .data, .data, .data, .pinned], laidTests := true, laidLooks := .later }
def NotationUnpacksUptoCardSaid : Prop := Claim7.holds Tryz.pinned (.plain (OpenSpec.upto notationUnpacksSpec)) notationUnpacksUptoCard

/-- THE SECOND FORM's CARD OF 'greffierlaw03.NotationBoth'. -/
def notationBothUptoCard : Claim7 := { stood := { row := notationBothUptoRow, standIns := [], harness := (true, "d812d081e52cbb5db2bfc2a84232516e73e0e6597321f593eda21a6e3f82762f"), looks := true }, kinds := [], alts := [], laidByText := true, laidKinds := [.data, .data, .data, .data, .pinned], laidTests := true, laidLooks := .later }
def NotationBothUptoCardSaid : Prop := Claim7.holds Tryz.pinned (.plain (OpenSpec.upto notationBothSpec)) notationBothUptoCard

/-- THE SECOND FORM's CARD OF 'greffierlaw03.NotationBlanks'. -/
def notationBlanksUptoCard : Claim7 := { stood := { row := notationBlanksUptoRow, standIns := [], harness := (true, "d812d081e52cbb5db2bfc2a84232516e73e0e6597321f593eda21a6e3f82762f"), looks := true }, kinds := [], alts := [], laidByText := true, laidKinds := [.data, .data, .data, .data, .pinned], laidTests := true, laidLooks := .later }
def NotationBlanksUptoCardSaid : Prop := Claim7.holds Tryz.pinned (.plain (OpenSpec.upto notationBlanksSpec)) notationBlanksUptoCard

/-- THE SECOND FORM's CARD OF 'greffierlaw03.NotationAgrees'. -/
def notationAgreesUptoCard : Claim7 := { stood := { row := notationAgreesUptoRow, standIns := [], harness := (true, "d812d081e52cbb5db2bfc2a84232516e73e0e6597321f593eda21a6e3f82762f"), looks := true }, kinds := [], alts := [], laidByText := true, laidKinds := [.data, .data, .data, .data, .pinned], laidTests := true, laidLooks := .later }
def NotationAgreesUptoCardSaid : Prop := Claim7.holds Tryz.pinned (.plain (OpenSpec.upto notationAgreesSpec)) notationAgreesUptoCard
end Rows
end Go.Proofs.YtcojkmcnigppbaaGreatDoor
