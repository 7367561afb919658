/-
  The tables of the field and of the scalars as they are laid; the program's points and scalars over them. No conditions.
-/
import Derived.Test.YtjiadbaaggifpaaDoorM5
import Derived.Test.YtjiadbaaggifpaaDoorScaTabZ
set_option linter.unusedVariables false
namespace Go.Proofs.YtjiadbaaggifpaaDoor
open Go Go.Proofs Go.RowKit F5

def Q8 (w : World) : Prop := Q7 w ∧ OrderAt w
theorem q8_laid {w : World} {rest : List (String × DataW Unit)} (h : laidMet Tryd.prog (("greffier/field.prime", Rows.laid_greffier_field_prime) :: ("greffier/field.turn", Rows.laid_greffier_field_turn) :: ("greffier/scalar.order", Rows.laid_greffier_scalar_order) :: rest) w) : Q8 w := ⟨q7_laid h, orderAt_laid h.tail.tail⟩
theorem ptOk8 : PtOk Q8 PU (uV 0 0 0) := ptOk (fun h hb => ⟨⟨h.1.1.old hb, h.1.2.old hb⟩, h.2.old hb⟩) (fun _ h => h.1.1) (fun _ h => h.1.2)
theorem sca_ok8 : ScaOk Q8 where
  old := fun h hb => ⟨⟨h.1.1.old hb, h.1.2.old hb⟩, h.2.old hb⟩
  reduce := fun A n c l w h1 h2 h3 hr hq => sca_ok.reduce A n c l w h1 h2 h3 hr hq.2
  muladd := fun a b c w ha hb hc hq => sca_ok.muladd a b c w ha hb hc hq.2
end Go.Proofs.YtjiadbaaggifpaaDoor
