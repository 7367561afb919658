/-
  The contracts of the document's answers of layer 9 (package greffierref09): zero, Same, Get. Conditions: at most 2^40 bytes.
-/
import Derived.Test.YtgiamllemfolkaaNumM
import Derived.Test.YtgiamllemfolkaaStr
import Derived.Laws.NewFold
set_option linter.unusedVariables false
namespace Go.Proofs.Ytgiamllemfolkaa
open Go Go.Proofs Go.RowKit Num9

theorem key_nan {x : Nat} (h : 2047 * 2 ^ 52 < x % 2 ^ 63) : key x = none := by
  unfold key
  rw [read_def, if_neg (by omega), if_neg (by omega), if_neg (by omega)]
theorem key_quiet (s c : Nat) (hc : c < 4503599627370495) : key (s % 2 * 2 ^ 63 + 0x7ff0000000000000 + 1 + c) = none := key_nan (by omega)
theorem run_nan (t : TypeId) (w : World) : ∃ r, key r = none ∧ (binOp .quo t (.float .f64 0) (.float .f64 0)).run Try.prog w = .ok (.float .f64 r) w.drew := by
  have h : FloatKind.f64.format.div 0 0 = none := by decide
  refine ⟨(w.tape w.drawn (.nanBits .f64 0 0) % 2) * 2 ^ 63 + 0x7ff0000000000000 + 1 + (w.tape w.drawn (.nanBits .f64 0 0) / 2) % (2 ^ 52 - 1), key_quiet _ _ (Nat.mod_lt _ (by decide)), ?_⟩
  simp [binOp, Op.floatArith, h, Question.forced, Question.cut]

theorem zero9_any (w : World) : Calls Try.prog 19 #[] w fun e w' => e = .returned (.float .f64 0) ∧ w' = w := by
  go_enter Try.func19, Try.ntmps19
  go_wp2
  go_ret
  exact ⟨rfl, rfl⟩

/-- Same answers true at equal words that are no NaN, and at two NaNs. -/
theorem same9_nan (x y : Nat) (hx : key x = none) (hy : key y = none) (w : World) : Calls Try.prog 11 #[.float .f64 x, .float .f64 y] w fun e w' => e = .returned (.bool true) ∧ w' = w := by
  have h1 : FloatKind.f64.format.order x x = none := by
    show Ieee.double.order x x = _
    rw [order_self, hx]; rfl
  have h2 : FloatKind.f64.format.order y y = none := by
    show Ieee.double.order y y = _
    rw [order_self, hy]; rfl
  go_enter Try.func11, Try.ntmps11
  go_wp2
  go_ret
  exact ⟨rfl, rfl⟩

theorem key_zeros {x : Nat} {a : Int} (h64 : x < 2 ^ 64) (h : key x = some 0) : x = 0 ∨ x = 2 ^ 63 := by
  unfold key at h
  rw [read_def] at h
  split at h
  · cases h
  · rename_i s e
    have := big_pos
    injection h with h
    cases s
    · simp at h; omega
    · simp at h; omega
  · rename_i s m p e
    injection h with h
    have h0 : m * 2 ^ (p - Ieee.double.leastPlace).toNat = 0 := by rw [← signed_abs s, h]; rfl
    have hm : m = 0 := by
      rcases Nat.mul_eq_zero.1 h0 with h1 | h1
      · exact h1
      · exact absurd h1 (Nat.pos_iff_ne_zero.1 (Nat.pow_pos (by decide)))
    split at e
    · injection e with e1 e2 e3
      omega
    · split at e
      · injection e with e1 e2 e3
        omega
      · split at e <;> cases e

theorem same9_eq (x : Nat) (h64 : x < 2 ^ 64) (hx : (key x).isSome) (w : World) : Calls Try.prog 11 #[.float .f64 x, .float .f64 x] w fun e w' => e = .returned (.bool true) ∧ w' = w := by
  have h1 : FloatKind.f64.format.order x x = some .eq := by
    show Ieee.double.order x x = _
    rw [order_self, if_pos hx]
  by_cases h0 : FloatKind.f64.format.order x 0 = some .eq
  · have hk : key x = some 0 := by
      have h : Ieee.double.order x 0 = some .eq := h0
      rw [order_key] at h
      have k0 : key 0 = some 0 := by decide
      rw [k0] at h
      cases hh : key x with
      | none => rw [hh] at h; cases h
      | some a =>
        rw [hh] at h
        injection h with h
        have h : compareOfLessAndEq a 0 = .eq := h
        unfold compareOfLessAndEq at h
        split at h
        · cases h
        · split at h
          · rename_i e; rw [e]
          · cases h
    rcases key_zeros (a := 0) h64 hk with rfl | rfl
    · have hq : floatBits .quo .f64 4607182418800017408 0 = some 0x7ff0000000000000 := by decide
      have hi : FloatKind.f64.format.order 0x7ff0000000000000 0x7ff0000000000000 = some .eq := by decide
      have hop : ∀ t w, (binOp .quo t (.float .f64 4607182418800017408) (.float .f64 0)).run Try.prog w = .ok (.float .f64 0x7ff0000000000000) w := fun t w => run_float_arith w .quo t .f64 _ _ _ hq
      go_enter Try.func11, Try.ntmps11
      go_wp2_with (simp only [hop])
      go_ret
      exact ⟨rfl, rfl⟩
    · have hq : floatBits .quo .f64 4607182418800017408 (2 ^ 63) = some 0xfff0000000000000 := by decide
      have hi : FloatKind.f64.format.order 0xfff0000000000000 0xfff0000000000000 = some .eq := by decide
      have hop : ∀ t w, (binOp .quo t (.float .f64 4607182418800017408) (.float .f64 (2 ^ 63))).run Try.prog w = .ok (.float .f64 0xfff0000000000000) w := fun t w => run_float_arith w .quo t .f64 _ _ _ hq
      go_enter Try.func11, Try.ntmps11
      go_wp2_with (simp only [hop])
      go_ret
      exact ⟨rfl, rfl⟩
  · have h2 : (FloatKind.f64.format.order x 0 == some .eq) = false := by rw [beq_eq_false_iff_ne]; exact h0
    go_enter Try.func11, Try.ntmps11
    go_wp2
    go_ret
    exact ⟨rfl, rfl⟩
end Go.Proofs.Ytgiamllemfolkaa
