/-
  From the given condition on the prime's variable to its limbs; bounds of numbers. No conditions.
-/
import Derived.Test.YtphlehinjooncaaDoorFldAwake
import Derived.Test.YtphlehinjooncaaDoorRows
import Derived.Lib.LaidTab
import Derived.Stop.LaidErr
set_option linter.unusedVariables false
namespace Go.Proofs.YtphlehinjooncaaDoor
open Go Go.Proofs Go.RowKit F5

abbrev primeZ : List Int := [18446744073709551597, 18446744073709551615, 18446744073709551615, 9223372036854775807]
theorem gPrime : Tryd.prog.globalNamed "greffier/field.prime" = some 1 := by kernel_rfl
theorem gPrimeType : (Tryd.prog.globals[1]?).map (·.type) = some 26 := by kernel_rfl
theorem primeZ_lim : ∀ j v, (u64s (digs M P 4))[j]? = some v → j < 4 ∧ v = .int .u64 (primeZ.getD j 0) := by
  intro j v h
  have hj : j < 4 := by have := (Array.getElem?_eq_some_iff.1 h).1; rwa [u64s_size, digs_length] at this
  refine ⟨hj, ?_⟩
  rw [u64s_get _ _ (by rw [digs_length]; exact hj), digs_getD _ _ _ _ hj] at h
  injection h with h
  rw [← h]
  rcases (show j = 0 ∨ j = 1 ∨ j = 2 ∨ j = 3 by omega) with rfl | rfl | rfl | rfl
  · exact congrArg (Value.int .u64) (by decide +kernel)
  · exact congrArg (Value.int .u64) (by decide +kernel)
  · exact congrArg (Value.int .u64) (by decide +kernel)
  · exact congrArg (Value.int .u64) (by decide +kernel)
theorem lt_of_cell {w : World} {g i : Nat} {v : Value} (h : w.cell? ⟨g, i, none⟩ = some v) : g < w.heap.size := by
  rcases Nat.lt_or_ge g w.heap.size with h1 | h1
  · exact h1
  · exfalso
    unfold World.cell? at h
    simp [Array.getElem?_eq_none h1] at h
theorem primeAt_of {w : World} (h : Lib.TabIs Tryd.prog w "greffier/field.prime" .u64 primeZ) : PrimeAt w := by
  refine ⟨lt_of_cell (h.cell gPrime 0 (by decide)), fun j v hj => ?_⟩
  obtain ⟨h4, rfl⟩ := primeZ_lim j v hj
  rw [Nat.zero_add]
  exact h.cell gPrime j h4
theorem primeAt_laid {w : World} {rest : List (String × DataW Unit)} (h : laidMet Tryd.prog (("greffier/field.prime", Rows.laid_greffier_field_prime) :: rest) w) : PrimeAt w :=
  primeAt_of (Lib.tabIs_of_head (zs := primeZ) (rest := rest) gPrime gPrimeType Tryd.underlying26 Tryd.underlying23 (by kernel_rfl) (by kernel_rfl) h)
theorem nat_u32 {a : Int} (h : (Lit.int .u32 a).wf = true) : ∃ n : Nat, a = (n : Int) ∧ n < 4294967296 := by
  have h1 : 0 ≤ a ∧ a ≤ 4294967295 := by simp [Lit.wf, IntKind.min, IntKind.max, IntKind.signed, IntKind.bits] at h; omega
  exact ⟨a.toNat, by omega, by omega⟩
theorem nat_u64 {a : Int} (h : (Lit.int .u64 a).wf = true) : ∃ n : Nat, a = (n : Int) ∧ n < M := by
  have h1 : 0 ≤ a ∧ a ≤ 18446744073709551615 := by simp [Lit.wf, IntKind.min, IntKind.max, IntKind.signed, IntKind.bits] at h; omega
  exact ⟨a.toNat, by omega, by unfold M; omega⟩
end Go.Proofs.YtphlehinjooncaaDoor
