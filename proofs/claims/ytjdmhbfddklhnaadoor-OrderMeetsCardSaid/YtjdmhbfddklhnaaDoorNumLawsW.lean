/-
  The walks of the laws NumberGets, NumberCompares, NumberGreatest over contracts of the program's package number. Conditions: those contracts.
-/
import Derived.Test.YtjdmhbfddklhnaaDoorNumOk
set_option linter.unusedSimpArgs false
set_option linter.unusedVariables false
namespace Go.Proofs.YtjdmhbfddklhnaaDoor
open Go Go.Proofs Go.RowKit Num9

namespace Num9
theorem self_of {x : Nat} (h : (key x).isSome) : FloatKind.f64.format.order x x = some .eq := by
  show Ieee.double.order x x = _
  rw [order_self, if_pos h]
theorem self_nan {x : Nat} (h : key x = none) : FloatKind.f64.format.order x x = none := by
  show Ieee.double.order x x = _
  rw [order_self, h]; rfl
theorem some_keys {x y : Nat} {o : Ordering} (h : Ieee.double.order x y = some o) : (key x).isSome ∧ (key y).isSome := by
  rw [order_key] at h
  cases hx : key x <;> cases hy : key y <;> rw [hx, hy] at h <;> first | (cases h; done) | exact ⟨rfl, rfl⟩
theorem none_keys {x y : Nat} (h : Ieee.double.order x y = none) : key x = none ∨ key y = none := by
  rw [order_key] at h
  cases hx : key x <;> cases hy : key y <;> rw [hx, hy] at h <;> first | (cases h; done) | simp
end Num9

namespace Num9
theorem great_same (xs : List Nat) (h : ∀ x ∈ xs, x < 2 ^ 64) : (key (greatR xs).1).isSome ∧ (greatR xs).1 < 2 ^ 64 := by
  unfold greatR
  cases hf : xs.find? (isBest xs) with
  | none => exact ⟨by decide, by decide⟩
  | some x =>
    have hm := List.mem_of_find?_eq_some hf
    have hb := List.find?_some hf
    refine ⟨?_, h x hm⟩
    unfold isBest at hb
    rw [Bool.and_eq_true, order_self] at hb
    cases hk : key x with
    | none => rw [hk] at hb; simp at hb
    | some a => rfl
end Num9

end Go.Proofs.YtjdmhbfddklhnaaDoor
