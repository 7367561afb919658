/-
  NARROWER THAN 'FOR EVERY INPUT', by the rows' own cells (each row's printed sentence says how): EddsaSigns: laid · EddsaVerifies: laid.
  DERIVED. THE GIVEN ROWS OF THIS SEAT. 2 by the template 'for every input the law returns true; each argument reads behind the call as it read before'; 0 by the template 'total and deterministic' (their statements: YtcfogpeinjehbaaGreatDoorTotals.lean).
  GIVEN WITH THE SEED: the statements are not yours to turn. If you find one false, say at which input.
  Laid BY PROGRAM, IN A SANDBOX (cutbox-rows.mjs): the forced cells as the released guide's own fill.sh prints them over the translation f1a81858d12985c8… (all of the seat's roots in one cut). By AI agents, Wed Nov 11 2026. No macro, syntax, notation, axiom, sorry.
-/
import Derived.Test.YtcfogpeinjehbaaGreatDoorChecked
import GoSem.Claim
import GoSem.ClaimJoined
import GoSem.ClaimMapViews
import Derived.JoinedTies
import Derived.KernelRfl
namespace Go.Proofs.YtcfogpeinjehbaaGreatDoor
/- THE CELL 'sum', in the pinned program and in every row, IS THE sha256 OF THE DUMP (.gsa) THAT YtcfogpeinjehbaaGreatDoorProg.lean LOADS. Nothing in Lean hashes anything: it is a label: what it is worth is what the hold of that sum in a sandbox is worth. -/
noncomputable def Tryz.pinned : Pinned := { name := "ytcfogpeinjehbaagreatdoor", sum := "f1a81858d12985c84a3c5f6f8cf4351d040fad58f77f14573799c724984d44c4", checked := Tryz.checked }
namespace Rows
def none {H : Type} : Left H := { results := [], args := [] }

/- WHAT THE LISTED PACKAGE-LEVEL VARIABLES READ AS WHEN THE CALL BEGINS. Each datum BY PROGRAM (the guide's laid-datum.mjs) off the statement by which the dump's own 'gosem.cut.vars' lays the variable. In a bare row this is a premise. The card (YtcfogpeinjehbaaGreatDoorCards.lean) ties it to the program's text. -/
def laid_greffier_field_prime {H : Type} : DataW H := .agg [.lit (.int .u64 18446744073709551597), .lit (.int .u64 18446744073709551615), .lit (.int .u64 18446744073709551615), .lit (.int .u64 9223372036854775807)]
def laid_greffier_field_turn {H : Type} : DataW H := .agg [.lit (.int .u64 14190309331451158704), .lit (.int .u64 3405592160176694392), .lit (.int .u64 3120150775007532967), .lit (.int .u64 3135389899092516619)]
def laid_greffier_scalar_order {H : Type} : DataW H := .agg [.lit (.int .u64 6346243789798364141), .lit (.int .u64 1503914060200516822), .lit (.int .u64 0), .lit (.int .u64 1152921504606846976)]

/-- 'greffierlaw08.EddsaSigns': WHATEVER THE INPUT: true; the input reads as it did. -/
def eddsaSignsSpec : ChangeSpec := { name := "eddsaSigns", fn := fun _ => fun
  | [d1, d2] => { results := [.lit (.bool true)], args := [d1, d2] }
  | _ => none }
def eddsaSignsRow : OpenClaim := { program := "ytcfogpeinjehbaagreatdoor", sum := "f1a81858d12985c84a3c5f6f8cf4351d040fad58f77f14573799c724984d44c4", func := "greffier/greffierlaw08.EddsaSigns", spec := "eddsaSigns", inPlace := ["math/bits.Add64", "math/bits.Sub64"], unfollowed := true, recurses := true, named := ["greffier/field.prime", "greffier/field.turn", "greffier/scalar.order"], apart := false, laid := [("greffier/field.prime", laid_greffier_field_prime), ("greffier/field.turn", laid_greffier_field_turn), ("greffier/scalar.order", laid_greffier_scalar_order)] }
def EddsaSignsSaid : Prop := eddsaSignsRow.holds Tryz.pinned (OpenSpec.ofChange eddsaSignsSpec)

/-- ITS FALSE NEIGHBOUR: 'it returns false'. Refute it at one input. -/
def eddsaSignsWrong : ChangeSpec := { name := "eddsaSigns", fn := fun _ => fun
  | [d1, d2] => { results := [.lit (.bool false)], args := [d1, d2] }
  | _ => none }
def EddsaSignsWrongFalsely : Prop := eddsaSignsRow.holds Tryz.pinned (OpenSpec.ofChange eddsaSignsWrong)

/-- 'greffierlaw08.EddsaVerifies': WHATEVER THE INPUT: true; the input reads as it did. -/
def eddsaVerifiesSpec : ChangeSpec := { name := "eddsaVerifies", fn := fun _ => fun
  | [d1, d2, d3] => { results := [.lit (.bool true)], args := [d1, d2, d3] }
  | _ => none }
def eddsaVerifiesRow : OpenClaim := { program := "ytcfogpeinjehbaagreatdoor", sum := "f1a81858d12985c84a3c5f6f8cf4351d040fad58f77f14573799c724984d44c4", func := "greffier/greffierlaw08.EddsaVerifies", spec := "eddsaVerifies", inPlace := ["math/bits.Add64", "math/bits.Sub64"], unfollowed := true, recurses := true, named := ["greffier/field.prime", "greffier/field.turn", "greffier/scalar.order"], apart := false, laid := [("greffier/field.prime", laid_greffier_field_prime), ("greffier/field.turn", laid_greffier_field_turn), ("greffier/scalar.order", laid_greffier_scalar_order)] }
def EddsaVerifiesSaid : Prop := eddsaVerifiesRow.holds Tryz.pinned (OpenSpec.ofChange eddsaVerifiesSpec)

/-- ITS FALSE NEIGHBOUR: 'it returns false'. Refute it at one input. -/
def eddsaVerifiesWrong : ChangeSpec := { name := "eddsaVerifies", fn := fun _ => fun
  | [d1, d2, d3] => { results := [.lit (.bool false)], args := [d1, d2, d3] }
  | _ => none }
def EddsaVerifiesWrongFalsely : Prop := eddsaVerifiesRow.holds Tryz.pinned (OpenSpec.ofChange eddsaVerifiesWrong)

/- THE SECOND FORM. 'bulk': how many values and letters a reading holds, each counted each time it is reached (what is shared counts as often as it is met; a slice's spare places count too). A statement '..UptoSaid' is the law's where the arguments, and the package variables that the reading takes, are together of bulk at most 1048576: NARROWER than '..Said'. Prove '..Said' where nothing that the law and all that it calls make is longer than what came in: it says more and counts as full. Else prove '..UptoSaid'. A law counts once. -/
mutual
def uptoBulk {H : Type} : DataW H → Nat
  | .lit (.string bytes) => bytes.length + 1
  | .lit _ => 1
  | .nil => 1
  | .ptr d => uptoBulk d + 1
  | .slice elems spare => uptoBulkAll elems + uptoBulkAll spare + 1
  | .agg parts => uptoBulkAll parts + 1
  | .iface _ d => uptoBulk d + 1
  | .map entries => uptoBulkEntries entries + 1
  | .held _ => 1
def uptoBulkAll {H : Type} : List (DataW H) → Nat
  | [] => 0
  | d :: r => uptoBulk d + uptoBulkAll r
def uptoBulkEntries {H : Type} : List (Lit × DataW H) → Nat
  | [] => 0
  | x :: r => uptoBulkEntry x + uptoBulkEntries r
def uptoBulkEntry {H : Type} : Lit × DataW H → Nat
  | (.string bytes, d) => bytes.length + uptoBulk d + 1
  | (_, d) => uptoBulk d + 1
 end
def uptoSmall : (H : Type) → List (DataW H) → Bool := fun _ ds => decide (uptoBulkAll ds ≤ 1048576)
def OpenSpec.upto (s : _root_.Go.ChangeSpec) : _root_.Go.OpenSpec := { _root_.Go.OpenSpec.ofChange s with cond := some uptoSmall }

/-- 'greffierlaw08.EddsaSigns', WHERE WHAT IT READS IS OF BULK AT MOST 1048576: true; the input reads as it did. -/
def eddsaSignsUptoRow : OpenClaim := { program := "ytcfogpeinjehbaagreatdoor", sum := "f1a81858d12985c84a3c5f6f8cf4351d040fad58f77f14573799c724984d44c4", func := "greffier/greffierlaw08.EddsaSigns", spec := "eddsaSigns", inPlace := ["math/bits.Add64", "math/bits.Sub64"], unfollowed := true, recurses := true, named := ["greffier/field.prime", "greffier/field.turn", "greffier/scalar.order"], apart := false, laid := [("greffier/field.prime", laid_greffier_field_prime), ("greffier/field.turn", laid_greffier_field_turn), ("greffier/scalar.order", laid_greffier_scalar_order)], narrowed := true }
def EddsaSignsUptoSaid : Prop := eddsaSignsUptoRow.holds Tryz.pinned (OpenSpec.upto eddsaSignsSpec)

/-- 'greffierlaw08.EddsaVerifies', WHERE WHAT IT READS IS OF BULK AT MOST 1048576: true; the input reads as it did. -/
def eddsaVerifiesUptoRow : OpenClaim := { program := "ytcfogpeinjehbaagreatdoor", sum := "f1a81858d12985c84a3c5f6f8cf4351d040fad58f77f14573799c724984d44c4", func := "greffier/greffierlaw08.EddsaVerifies", spec := "eddsaVerifies", inPlace := ["math/bits.Add64", "math/bits.Sub64"], unfollowed := true, recurses := true, named := ["greffier/field.prime", "greffier/field.turn", "greffier/scalar.order"], apart := false, laid := [("greffier/field.prime", laid_greffier_field_prime), ("greffier/field.turn", laid_greffier_field_turn), ("greffier/scalar.order", laid_greffier_scalar_order)], narrowed := true }
def EddsaVerifiesUptoSaid : Prop := eddsaVerifiesUptoRow.holds Tryz.pinned (OpenSpec.upto eddsaVerifiesSpec)

end Rows
end Go.Proofs.YtcfogpeinjehbaaGreatDoor
