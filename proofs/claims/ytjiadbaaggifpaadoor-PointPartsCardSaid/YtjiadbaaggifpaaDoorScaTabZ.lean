/-
  From the given condition on L's variable to its limbs; bounds of numbers. No conditions.
-/
import Derived.Test.YtjiadbaaggifpaaDoorScaLastZ
import Derived.Test.YtjiadbaaggifpaaDoorRows
import Derived.Lib.LaidTab
import Derived.Stop.LaidErr
set_option linter.unusedVariables false
namespace Go.Proofs.YtjiadbaaggifpaaDoor
open Go Go.Proofs Go.RowKit F5

abbrev orderZ : List Int := [6346243789798364141, 1503914060200516822, 0, 1152921504606846976]
theorem gOrder : Tryd.prog.globalNamed "greffier/scalar.order" = some 0 := by kernel_rfl
theorem gOrderType : (Tryd.prog.globals[0]?).map (·.type) = some 82 := by kernel_rfl
theorem orderZ_lim : ∀ j v, (limS LL)[j]? = some v → j < 4 ∧ v = .int .u64 (orderZ.getD j 0) := by
  intro j v h
  have hj : j < 4 := by have := (Array.getElem?_eq_some_iff.1 h).1; rwa [limS_size] at this
  refine ⟨hj, ?_⟩
  rw [limS_get _ _ hj] at h
  injection h with h
  rw [← h]
  rcases (show j = 0 ∨ j = 1 ∨ j = 2 ∨ j = 3 by omega) with rfl | rfl | rfl | rfl
  · exact congrArg (Value.int .u64) (by decide +kernel)
  · exact congrArg (Value.int .u64) (by decide +kernel)
  · exact congrArg (Value.int .u64) (by decide +kernel)
  · exact congrArg (Value.int .u64) (by decide +kernel)
theorem slt_of_cell {w : World} {g i : Nat} {v : Value} (h : w.cell? ⟨g, i, none⟩ = some v) : g < w.heap.size := by
  rcases Nat.lt_or_ge g w.heap.size with h1 | h1
  · exact h1
  · exfalso
    unfold World.cell? at h
    simp [Array.getElem?_eq_none h1] at h
theorem orderAt_of {w : World} (h : Lib.TabIs Tryd.prog w "greffier/scalar.order" .u64 orderZ) : OrderAt w := by
  refine ⟨slt_of_cell (h.cell gOrder 0 (by decide)), fun j v hj => ?_⟩
  obtain ⟨h4, rfl⟩ := orderZ_lim j v hj
  rw [Nat.zero_add]
  exact h.cell gOrder j h4
theorem orderAt_laid {w : World} {rest : List (String × DataW Unit)} (h : laidMet Tryd.prog (("greffier/scalar.order", Rows.laid_greffier_scalar_order) :: rest) w) : OrderAt w :=
  orderAt_of (Lib.tabIs_of_head (zs := orderZ) (rest := rest) gOrder gOrderType Tryd.underlying82 Tryd.underlying24 (by kernel_rfl) (by kernel_rfl) h)
theorem nat_u8 {a : Int} (h : (Lit.int .u8 a).wf = true) : ∃ n : Nat, a = (n : Int) ∧ n < 256 := by
  have h1 : 0 ≤ a ∧ a ≤ 255 := by simp [Lit.wf, IntKind.min, IntKind.max, IntKind.signed, IntKind.bits] at h; omega
  exact ⟨a.toNat, by omega, by omega⟩
end Go.Proofs.YtjiadbaaggifpaaDoor
