/-
  Words for the walks of the laws on forms: a form has two bytes or more, a front part of bytes that are read, the value of no fields. No conditions.
-/
import Derived.Test.YtaenahilnnlbfaaDoorAwake2
import Derived.Test.YtaenahilnnlbfaaDoorRefSame
import Derived.Test.YtaenahilnnlbfaaDoorDeep
import Derived.Test.YtaenahilnnlbfaaDoorParse3
import Derived.Test.YtaenahilnnlbfaaDoorGet
set_option linter.unusedVariables false
namespace Go.Proofs.YtaenahilnnlbfaaDoor
open Go Go.Proofs Go.RowKit Sx

theorem dec_pos (n : Nat) : 1 ≤ (Lib.decDigits n).length := by
  rcases Nat.eq_zero_or_pos n with h | h
  · subst h; rw [dec_zero]; simp
  · obtain ⟨d, q, hd, _⟩ := Oct.dec_head n h
    rw [hd]; simp
theorem form_two (t : SX) : 2 ≤ (form t).length := by
  cases t with
  | mk l h hi da ks =>
    rw [form]
    cases l
    · have := dec_pos da.length
      have := text_length da
      simp
      omega
    · simp
theorem reads_front {w : World} {B n : Nat} {A : Option Addr} {l : List UInt8} (h : Reads w B 1 A n (Lib.byteCells l)) {k : Nat} (hk : k ≤ n) : Reads w B 1 A k (Lib.byteCells (l.take k)) := by
  have hl : l.length = n := by have := h.1; simpa [Lib.byteCells_length] using this
  refine ⟨by rw [Lib.byteCells_length, List.length_take]; omega, fun hk0 => ?_⟩
  obtain ⟨ad, e, hb, hc⟩ := h.2 (by omega)
  refine ⟨ad, e, hb, fun j u hu => hc j u ?_⟩
  have e2 : Lib.byteCells (l.take k) = (Lib.byteCells l).take k := by simp [Lib.byteCells]
  rw [e2, List.getElem?_take] at hu
  split at hu
  · exact hu
  · cases hu
theorem sin_zero (w : World) (S : Nat → Prop) : SIn w S zeroS [.bool false, .bool false, .slice none 0 0, .slice none 0 0, .slice none 0 0] :=
  .mk (xs := []) RIn.none_ ⟨Nat.le_refl _, by omega⟩ RIn.none_ ⟨Nat.le_refl _, by omega⟩ RIn.none_ ⟨Nat.le_refl _, by omega⟩ rfl (fun i t hit => by simp at hit)
/-- A value in a box of its own. -/
theorem in_box {w3 : World} {S : Nat → Prop} {t : SX} {cs : List Value} (hin : SIn w3 S t cs) (o : Obj) : SIn (w3.alloc o) S t cs := hin.old (below_new w3 o)
theorem same_zero : same zeroS zeroS = true := same_refl _
end Go.Proofs.YtaenahilnnlbfaaDoor
