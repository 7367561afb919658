/-
  The contracts of the document's answers of layer 9 (package greffierref09): zero, Same, Get. Conditions: at most 2^40 bytes.
-/
import Derived.Test.YtjdmhbfddklhnaaDoorNumM
import Derived.Test.YtjdmhbfddklhnaaDoorStr
import Derived.Laws.NewFold
set_option linter.unusedSimpArgs false
set_option linter.unusedVariables false
namespace Go.Proofs.YtjdmhbfddklhnaaDoor
open Go Go.Proofs Go.RowKit Num9

theorem key_nan {x : Nat} (h : 2047 * 2 ^ 52 < x % 2 ^ 63) : key x = none := by
  unfold key
  rw [read_def, if_neg (by omega), if_neg (by omega), if_neg (by omega)]
theorem key_quiet (s c : Nat) (hc : c < 4503599627370495) : key (s % 2 * 2 ^ 63 + 0x7ff0000000000000 + 1 + c) = none := key_nan (by omega)
theorem run_nan (t : TypeId) (w : World) : ∃ r, key r = none ∧ (binOp .quo t (.float .f64 0) (.float .f64 0)).run Tryd.prog w = .ok (.float .f64 r) w.drew := by
  have h : FloatKind.f64.format.div 0 0 = none := by decide
  refine ⟨(w.tape w.drawn (.nanBits .f64 0 0) % 2) * 2 ^ 63 + 0x7ff0000000000000 + 1 + (w.tape w.drawn (.nanBits .f64 0 0) / 2) % (2 ^ 52 - 1), key_quiet _ _ (Nat.mod_lt _ (by decide)), ?_⟩
  simp [binOp, Op.floatArith, h, Question.forced, Question.cut]

theorem zero9_any (w : World) : Calls Tryd.prog 45 #[] w fun e w' => e = .returned (.float .f64 0) ∧ w' = w := by
  go_enter Tryd.func45, Tryd.ntmps45
  go_wp2
  go_ret
  exact ⟨rfl, rfl⟩

theorem key_zeros {x : Nat} {a : Int} (h64 : x < 2 ^ 64) (h : key x = some 0) : x = 0 ∨ x = 2 ^ 63 := by
  unfold key at h
  rw [read_def] at h
  split at h
  · cases h
  · rename_i s e
    have := big_pos
    injection h with h
    cases s
    · simp at h; omega
    · simp at h; omega
  · rename_i s m p e
    injection h with h
    have h0 : m * 2 ^ (p - Ieee.double.leastPlace).toNat = 0 := by rw [← signed_abs s, h]; rfl
    have hm : m = 0 := by
      rcases Nat.mul_eq_zero.1 h0 with h1 | h1
      · exact h1
      · exact absurd h1 (Nat.pos_iff_ne_zero.1 (Nat.pow_pos (by decide)))
    split at e
    · injection e with e1 e2 e3
      omega
    · split at e
      · injection e with e1 e2 e3
        omega
      · split at e <;> cases e

end Go.Proofs.YtjdmhbfddklhnaaDoor
