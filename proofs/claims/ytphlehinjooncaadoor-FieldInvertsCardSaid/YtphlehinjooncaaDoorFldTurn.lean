/-
  From the given condition on turn's variable to its limbs. No conditions.
-/
import Derived.Test.YtphlehinjooncaaDoorFldRoot
import Derived.Test.YtphlehinjooncaaDoorFldTab
set_option linter.unusedVariables false
namespace Go.Proofs.YtphlehinjooncaaDoor
open Go Go.Proofs Go.RowKit F5

abbrev turnZ : List Int := [14190309331451158704, 3405592160176694392, 3120150775007532967, 3135389899092516619]
theorem gTurn : Tryd.prog.globalNamed "greffier/field.turn" = some 0 := by kernel_rfl
theorem gTurnType : (Tryd.prog.globals[0]?).map (·.type) = some 26 := by kernel_rfl
theorem turnZ_lim : ∀ j v, (limA I4)[j]? = some v → j < 4 ∧ v = .int .u64 (turnZ.getD j 0) := by
  intro j v h
  have hj : j < 4 := by have := (Array.getElem?_eq_some_iff.1 h).1; rwa [limA_size] at this
  refine ⟨hj, ?_⟩
  rw [limA_get _ _ hj] at h
  injection h with h
  rw [← h]
  rcases (show j = 0 ∨ j = 1 ∨ j = 2 ∨ j = 3 by omega) with rfl | rfl | rfl | rfl
  · exact congrArg (Value.int .u64) (by decide +kernel)
  · exact congrArg (Value.int .u64) (by decide +kernel)
  · exact congrArg (Value.int .u64) (by decide +kernel)
  · exact congrArg (Value.int .u64) (by decide +kernel)
theorem turnAt_of {w : World} (h : Lib.TabIs Tryd.prog w "greffier/field.turn" .u64 turnZ) : TurnAt w := by
  refine ⟨lt_of_cell (h.cell gTurn 0 (by decide)), fun j v hj => ?_⟩
  obtain ⟨h4, rfl⟩ := turnZ_lim j v hj
  rw [Nat.zero_add]
  exact h.cell gTurn j h4
theorem turnAt_laid {w : World} {x : String × DataW Unit} {rest : List (String × DataW Unit)} (h : laidMet Tryd.prog (x :: ("greffier/field.turn", Rows.laid_greffier_field_turn) :: rest) w) : TurnAt w :=
  turnAt_of (Lib.tabIs_of_head (zs := turnZ) (rest := rest) gTurn gTurnType Tryd.underlying26 Tryd.underlying23 (by kernel_rfl) (by kernel_rfl) h.tail)
end Go.Proofs.YtphlehinjooncaaDoor
