/-
  NARROWER THAN 'FOR EVERY INPUT', by the rows' own cells (each row's printed sentence says how): PointGets: laid · PointAdds: laid · PointTimes: laid · PointLaws: laid · PointParts: laid · PointCounts: laid.
  DERIVED. THE GIVEN ROWS OF THIS SEAT. 6 by the template 'for every input the law returns true; each argument reads behind the call as it read before'; 0 by the template 'total and deterministic' (their statements: YtjiadbaaggifpaaDoorTotals.lean).
  GIVEN WITH THE SEED: the statements are not yours to turn. If you find one false, say at which input.
  Laid BY PROGRAM, IN A SANDBOX (cutbox-rows.mjs): the forced cells as the released guide's own fill.sh prints them over the translation 2f10832fe6ff0e76… (all of the seat's roots in one cut). By AI agents, Wed Nov 11 2026. No macro, syntax, notation, axiom, sorry.
-/
import Derived.Test.YtjiadbaaggifpaaDoorChecked
import GoSem.Claim
import GoSem.ClaimJoined
import GoSem.ClaimMapViews
import Derived.JoinedTies
import Derived.KernelRfl
namespace Go.Proofs.YtjiadbaaggifpaaDoor
/- THE CELL 'sum', in the pinned program and in every row, IS THE sha256 OF THE DUMP (.gsa) THAT YtjiadbaaggifpaaDoorProg.lean LOADS. Nothing in Lean hashes anything: it is a label: what it is worth is what the hold of that sum in a sandbox is worth. -/
noncomputable def Tryd.pinned : Pinned := { name := "ytjiadbaaggifpaadoor", sum := "2f10832fe6ff0e76d149bc9279785616bbc83484477a0c8db2007447de7899c5", checked := Tryd.checked }
namespace Rows
def none {H : Type} : Left H := { results := [], args := [] }

/- WHAT THE LISTED PACKAGE-LEVEL VARIABLES READ AS WHEN THE CALL BEGINS. Each datum BY PROGRAM (the guide's laid-datum.mjs) off the statement by which the dump's own 'gosem.cut.vars' lays the variable. In a bare row this is a premise. The card (YtjiadbaaggifpaaDoorCards.lean) ties it to the program's text. -/
def laid_greffier_field_prime {H : Type} : DataW H := .agg [.lit (.int .u64 18446744073709551597), .lit (.int .u64 18446744073709551615), .lit (.int .u64 18446744073709551615), .lit (.int .u64 9223372036854775807)]
def laid_greffier_field_turn {H : Type} : DataW H := .agg [.lit (.int .u64 14190309331451158704), .lit (.int .u64 3405592160176694392), .lit (.int .u64 3120150775007532967), .lit (.int .u64 3135389899092516619)]
def laid_greffier_scalar_order {H : Type} : DataW H := .agg [.lit (.int .u64 6346243789798364141), .lit (.int .u64 1503914060200516822), .lit (.int .u64 0), .lit (.int .u64 1152921504606846976)]

/-- 'greffierlaw07.PointGets': WHATEVER THE INPUT: true; the input reads as it did. -/
def pointGetsSpec : ChangeSpec := { name := "pointGets", fn := fun _ => fun
  | [d] => { results := [.lit (.bool true)], args := [d] }
  | _ => none }
def pointGetsRow : OpenClaim := { program := "ytjiadbaaggifpaadoor", sum := "2f10832fe6ff0e76d149bc9279785616bbc83484477a0c8db2007447de7899c5", func := "greffier/greffierlaw07.PointGets", spec := "pointGets", inPlace := ["math/bits.Add64", "math/bits.Sub64"], recurses := true, named := ["greffier/field.prime", "greffier/field.turn"], apart := false, laid := [("greffier/field.prime", laid_greffier_field_prime), ("greffier/field.turn", laid_greffier_field_turn)] }
def PointGetsSaid : Prop := pointGetsRow.holds Tryd.pinned (OpenSpec.ofChange pointGetsSpec)

/-- ITS FALSE NEIGHBOUR: 'it returns false'. Refute it at one input. -/
def pointGetsWrong : ChangeSpec := { name := "pointGets", fn := fun _ => fun
  | [d] => { results := [.lit (.bool false)], args := [d] }
  | _ => none }
def PointGetsWrongFalsely : Prop := pointGetsRow.holds Tryd.pinned (OpenSpec.ofChange pointGetsWrong)

/-- 'greffierlaw07.PointAdds': WHATEVER THE INPUT: true; the input reads as it did. -/
def pointAddsSpec : ChangeSpec := { name := "pointAdds", fn := fun _ => fun
  | [d1, d2] => { results := [.lit (.bool true)], args := [d1, d2] }
  | _ => none }
def pointAddsRow : OpenClaim := { program := "ytjiadbaaggifpaadoor", sum := "2f10832fe6ff0e76d149bc9279785616bbc83484477a0c8db2007447de7899c5", func := "greffier/greffierlaw07.PointAdds", spec := "pointAdds", inPlace := ["math/bits.Sub64", "math/bits.Add64"], recurses := true, named := ["greffier/field.prime", "greffier/field.turn"], apart := false, laid := [("greffier/field.prime", laid_greffier_field_prime), ("greffier/field.turn", laid_greffier_field_turn)] }
def PointAddsSaid : Prop := pointAddsRow.holds Tryd.pinned (OpenSpec.ofChange pointAddsSpec)

/-- ITS FALSE NEIGHBOUR: 'it returns false'. Refute it at one input. -/
def pointAddsWrong : ChangeSpec := { name := "pointAdds", fn := fun _ => fun
  | [d1, d2] => { results := [.lit (.bool false)], args := [d1, d2] }
  | _ => none }
def PointAddsWrongFalsely : Prop := pointAddsRow.holds Tryd.pinned (OpenSpec.ofChange pointAddsWrong)

/-- 'greffierlaw07.PointTimes': WHATEVER THE INPUT: true; the input reads as it did. -/
def pointTimesSpec : ChangeSpec := { name := "pointTimes", fn := fun _ => fun
  | [d1, d2] => { results := [.lit (.bool true)], args := [d1, d2] }
  | _ => none }
def pointTimesRow : OpenClaim := { program := "ytjiadbaaggifpaadoor", sum := "2f10832fe6ff0e76d149bc9279785616bbc83484477a0c8db2007447de7899c5", func := "greffier/greffierlaw07.PointTimes", spec := "pointTimes", inPlace := ["math/bits.Sub64", "math/bits.Add64"], unfollowed := true, recurses := true, named := ["greffier/field.prime", "greffier/field.turn"], apart := false, laid := [("greffier/field.prime", laid_greffier_field_prime), ("greffier/field.turn", laid_greffier_field_turn)] }
def PointTimesSaid : Prop := pointTimesRow.holds Tryd.pinned (OpenSpec.ofChange pointTimesSpec)

/-- ITS FALSE NEIGHBOUR: 'it returns false'. Refute it at one input. -/
def pointTimesWrong : ChangeSpec := { name := "pointTimes", fn := fun _ => fun
  | [d1, d2] => { results := [.lit (.bool false)], args := [d1, d2] }
  | _ => none }
def PointTimesWrongFalsely : Prop := pointTimesRow.holds Tryd.pinned (OpenSpec.ofChange pointTimesWrong)

/-- 'greffierlaw07.PointLaws': WHATEVER THE INPUT: true; the input reads as it did. -/
def pointLawsSpec : ChangeSpec := { name := "pointLaws", fn := fun _ => fun
  | [d1, d2, d3] => { results := [.lit (.bool true)], args := [d1, d2, d3] }
  | _ => none }
def pointLawsRow : OpenClaim := { program := "ytjiadbaaggifpaadoor", sum := "2f10832fe6ff0e76d149bc9279785616bbc83484477a0c8db2007447de7899c5", func := "greffier/greffierlaw07.PointLaws", spec := "pointLaws", inPlace := ["math/bits.Sub64", "math/bits.Add64"], recurses := true, named := ["greffier/field.prime", "greffier/field.turn"], apart := false, laid := [("greffier/field.prime", laid_greffier_field_prime), ("greffier/field.turn", laid_greffier_field_turn)] }
def PointLawsSaid : Prop := pointLawsRow.holds Tryd.pinned (OpenSpec.ofChange pointLawsSpec)

/-- ITS FALSE NEIGHBOUR: 'it returns false'. Refute it at one input. -/
def pointLawsWrong : ChangeSpec := { name := "pointLaws", fn := fun _ => fun
  | [d1, d2, d3] => { results := [.lit (.bool false)], args := [d1, d2, d3] }
  | _ => none }
def PointLawsWrongFalsely : Prop := pointLawsRow.holds Tryd.pinned (OpenSpec.ofChange pointLawsWrong)

/-- 'greffierlaw07.PointParts': WHATEVER THE INPUT: true; the input reads as it did. -/
def pointPartsSpec : ChangeSpec := { name := "pointParts", fn := fun _ => fun
  | [d1, d2] => { results := [.lit (.bool true)], args := [d1, d2] }
  | _ => none }
def pointPartsRow : OpenClaim := { program := "ytjiadbaaggifpaadoor", sum := "2f10832fe6ff0e76d149bc9279785616bbc83484477a0c8db2007447de7899c5", func := "greffier/greffierlaw07.PointParts", spec := "pointParts", inPlace := ["math/bits.Add64", "math/bits.Sub64"], unfollowed := true, recurses := true, named := ["greffier/field.prime", "greffier/field.turn", "greffier/scalar.order"], apart := false, laid := [("greffier/field.prime", laid_greffier_field_prime), ("greffier/field.turn", laid_greffier_field_turn), ("greffier/scalar.order", laid_greffier_scalar_order)] }
def PointPartsSaid : Prop := pointPartsRow.holds Tryd.pinned (OpenSpec.ofChange pointPartsSpec)

/-- ITS FALSE NEIGHBOUR: 'it returns false'. Refute it at one input. -/
def pointPartsWrong : ChangeSpec := { name := "pointParts", fn := fun _ => fun
  | [d1, d2] => { results := [.lit (.bool false)], args := [d1, d2] }
  | _ => none }
def PointPartsWrongFalsely : Prop := pointPartsRow.holds Tryd.pinned (OpenSpec.ofChange pointPartsWrong)

/-- 'greffierlaw07.PointCounts': WHATEVER THE INPUT: true; the input reads as it did. -/
def pointCountsSpec : ChangeSpec := { name := "pointCounts", fn := fun _ => fun
  | [d1, d2] => { results := [.lit (.bool true)], args := [d1, d2] }
  | _ => none }
def pointCountsRow : OpenClaim := { program := "ytjiadbaaggifpaadoor", sum := "2f10832fe6ff0e76d149bc9279785616bbc83484477a0c8db2007447de7899c5", func := "greffier/greffierlaw07.PointCounts", spec := "pointCounts", inPlace := ["math/bits.Sub64", "math/bits.Add64"], unfollowed := true, recurses := true, named := ["greffier/field.prime", "greffier/field.turn"], apart := false, laid := [("greffier/field.prime", laid_greffier_field_prime), ("greffier/field.turn", laid_greffier_field_turn)] }
def PointCountsSaid : Prop := pointCountsRow.holds Tryd.pinned (OpenSpec.ofChange pointCountsSpec)

/-- ITS FALSE NEIGHBOUR: 'it returns false'. Refute it at one input. -/
def pointCountsWrong : ChangeSpec := { name := "pointCounts", fn := fun _ => fun
  | [d1, d2] => { results := [.lit (.bool false)], args := [d1, d2] }
  | _ => none }
def PointCountsWrongFalsely : Prop := pointCountsRow.holds Tryd.pinned (OpenSpec.ofChange pointCountsWrong)

/- THE SECOND FORM. 'bulk': how many values and letters a reading holds, each counted each time it is reached (what is shared counts as often as it is met; a slice's spare places count too). A statement '..UptoSaid' is the law's where the arguments, and the package variables that the reading takes, are together of bulk at most 1048576: NARROWER than '..Said'. Prove '..Said' where nothing that the law and all that it calls make is longer than what came in: it says more and counts as full. Else prove '..UptoSaid'. A law counts once. -/
mutual
def uptoBulk {H : Type} : DataW H → Nat
  | .lit (.string bytes) => bytes.length + 1
  | .lit _ => 1
  | .nil => 1
  | .ptr d => uptoBulk d + 1
  | .slice elems spare => uptoBulkAll elems + uptoBulkAll spare + 1
  | .agg parts => uptoBulkAll parts + 1
  | .iface _ d => uptoBulk d + 1
  | .map entries => uptoBulkEntries entries + 1
  | .held _ => 1
def uptoBulkAll {H : Type} : List (DataW H) → Nat
  | [] => 0
  | d :: r => uptoBulk d + uptoBulkAll r
def uptoBulkEntries {H : Type} : List (Lit × DataW H) → Nat
  | [] => 0
  | x :: r => uptoBulkEntry x + uptoBulkEntries r
def uptoBulkEntry {H : Type} : Lit × DataW H → Nat
  | (.string bytes, d) => bytes.length + uptoBulk d + 1
  | (_, d) => uptoBulk d + 1
 end
def uptoSmall : (H : Type) → List (DataW H) → Bool := fun _ ds => decide (uptoBulkAll ds ≤ 1048576)
def OpenSpec.upto (s : _root_.Go.ChangeSpec) : _root_.Go.OpenSpec := { _root_.Go.OpenSpec.ofChange s with cond := some uptoSmall }

/-- 'greffierlaw07.PointGets', WHERE WHAT IT READS IS OF BULK AT MOST 1048576: true; the input reads as it did. -/
def pointGetsUptoRow : OpenClaim := { program := "ytjiadbaaggifpaadoor", sum := "2f10832fe6ff0e76d149bc9279785616bbc83484477a0c8db2007447de7899c5", func := "greffier/greffierlaw07.PointGets", spec := "pointGets", inPlace := ["math/bits.Add64", "math/bits.Sub64"], recurses := true, named := ["greffier/field.prime", "greffier/field.turn"], apart := false, laid := [("greffier/field.prime", laid_greffier_field_prime), ("greffier/field.turn", laid_greffier_field_turn)], narrowed := true }
def PointGetsUptoSaid : Prop := pointGetsUptoRow.holds Tryd.pinned (OpenSpec.upto pointGetsSpec)

/-- 'greffierlaw07.PointAdds', WHERE WHAT IT READS IS OF BULK AT MOST 1048576: true; the input reads as it did. -/
def pointAddsUptoRow : OpenClaim := { program := "ytjiadbaaggifpaadoor", sum := "2f10832fe6ff0e76d149bc9279785616bbc83484477a0c8db2007447de7899c5", func := "greffier/greffierlaw07.PointAdds", spec := "pointAdds", inPlace := ["math/bits.Sub64", "math/bits.Add64"], recurses := true, named := ["greffier/field.prime", "greffier/field.turn"], apart := false, laid := [("greffier/field.prime", laid_greffier_field_prime), ("greffier/field.turn", laid_greffier_field_turn)], narrowed := true }
def PointAddsUptoSaid : Prop := pointAddsUptoRow.holds Tryd.pinned (OpenSpec.upto pointAddsSpec)

/-- 'greffierlaw07.PointTimes', WHERE WHAT IT READS IS OF BULK AT MOST 1048576: true; the input reads as it did. -/
def pointTimesUptoRow : OpenClaim := { program := "ytjiadbaaggifpaadoor", sum := "2f10832fe6ff0e76d149bc9279785616bbc83484477a0c8db2007447de7899c5", func := "greffier/greffierlaw07.PointTimes", spec := "pointTimes", inPlace := ["math/bits.Sub64", "math/bits.Add64"], unfollowed := true, recurses := true, named := ["greffier/field.prime", "greffier/field.turn"], apart := false, laid := [("greffier/field.prime", laid_greffier_field_prime), ("greffier/field.turn", laid_greffier_field_turn)], narrowed := true }
def PointTimesUptoSaid : Prop := pointTimesUptoRow.holds Tryd.pinned (OpenSpec.upto pointTimesSpec)

/-- 'greffierlaw07.PointLaws', WHERE WHAT IT READS IS OF BULK AT MOST 1048576: true; the input reads as it did. -/
def pointLawsUptoRow : OpenClaim := { program := "ytjiadbaaggifpaadoor", sum := "2f10832fe6ff0e76d149bc9279785616bbc83484477a0c8db2007447de7899c5", func := "greffier/greffierlaw07.PointLaws", spec := "pointLaws", inPlace := ["math/bits.Sub64", "math/bits.Add64"], recurses := true, named := ["greffier/field.prime", "greffier/field.turn"], apart := false, laid := [("greffier/field.prime", laid_greffier_field_prime), ("greffier/field.turn", laid_greffier_field_turn)], narrowed := true }
def PointLawsUptoSaid : Prop := pointLawsUptoRow.holds Tryd.pinned (OpenSpec.upto pointLawsSpec)

/-- 'greffierlaw07.PointParts', WHERE WHAT IT READS IS OF BULK AT MOST 1048576: true; the input reads as it did. -/
def pointPartsUptoRow : OpenClaim := { program := "ytjiadbaaggifpaadoor", sum := "2f10832fe6ff0e76d149bc9279785616bbc83484477a0c8db2007447de7899c5", func := "greffier/greffierlaw07.PointParts", spec := "pointParts", inPlace := ["math/bits.Add64", "math/bits.Sub64"], unfollowed := true, recurses := true, named := ["greffier/field.prime", "greffier/field.turn", "greffier/scalar.order"], apart := false, laid := [("greffier/field.prime", laid_greffier_field_prime), ("greffier/field.turn", laid_greffier_field_turn), ("greffier/scalar.order", laid_greffier_scalar_order)], narrowed := true }
def PointPartsUptoSaid : Prop := pointPartsUptoRow.holds Tryd.pinned (OpenSpec.upto pointPartsSpec)

/-- 'greffierlaw07.PointCounts', WHERE WHAT IT READS IS OF BULK AT MOST 1048576: true; the input reads as it did. -/
def pointCountsUptoRow : OpenClaim := { program := "ytjiadbaaggifpaadoor", sum := "2f10832fe6ff0e76d149bc9279785616bbc83484477a0c8db2007447de7899c5", func := "greffier/greffierlaw07.PointCounts", spec := "pointCounts", inPlace := ["math/bits.Sub64", "math/bits.Add64"], unfollowed := true, recurses := true, named := ["greffier/field.prime", "greffier/field.turn"], apart := false, laid := [("greffier/field.prime", laid_greffier_field_prime), ("greffier/field.turn", laid_greffier_field_turn)], narrowed := true }
def PointCountsUptoSaid : Prop := pointCountsUptoRow.holds Tryd.pinned (OpenSpec.upto pointCountsSpec)

end Rows
end Go.Proofs.YtjiadbaaggifpaaDoor
