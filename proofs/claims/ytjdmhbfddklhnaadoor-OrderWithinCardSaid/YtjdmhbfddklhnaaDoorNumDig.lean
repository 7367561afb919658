/-
  The program's package number: whether bytes are digits. Conditions: at most 2^40 bytes.
-/
import Derived.Test.YtjdmhbfddklhnaaDoorNumProg
import Derived.Test.YtjdmhbfddklhnaaDoorBytesCut
set_option linter.unusedSimpArgs false
set_option linter.unusedVariables false
namespace Go.Proofs.YtjdmhbfddklhnaaDoor
open Go Go.Proofs Go.RowKit Num9

set_option maxHeartbeats 4000000 in
set_option maxRecDepth 100000 in
theorem areDigits_any (A : Option Addr) (n c B : Nat) (l : List UInt8) (w : World) (hr : Reads w B 1 A n (Lib.byteCells l)) (hn : n ≤ 1099511627776) :
    Calls Tryd.prog 78 #[.slice A n c] w fun e w' => e = .returned (.bool (areD l && decide (0 < l.length))) ∧ w' = w := by
  have hl : Hid (l.length = n) := by have := hr.1; show _ = _; simpa [Lib.byteCells_length] using this
  rw [show decide (0 < l.length) = decide (0 < n) by rw [hl.out]]
  obtain ⟨X, hX⟩ : ∃ X, X = (areD l && decide (0 < n)) := ⟨_, rfl⟩
  rw [← hX]
  have HX := Lib.hid hX
  clear hX
  go_enter Tryd.func78, Tryd.ntmps78
  go_wp2_with fail
  go_loop [7] (fun d => ∃ i : Nat, i ≤ n ∧ d = .int .i64 i ∧ Hid (areD l = areD (l.drop i))) (fun d => n - (intOf d).toNat)
  case atStart => exact ⟨0, Nat.zero_le _, rfl, by show _ = _; rw [List.drop_zero]⟩
  case round =>
    obtain ⟨i, hin, rfl, hI⟩ := hrel
    by_cases hi : i < n
    · obtain ⟨ad, y, rfl, hc, hd, _⟩ := reads_byteN hr hi
      have HD := Lib.hid hd
      clear hd
      have hy256 := y.toNat_lt
      by_cases h1 : y.toNat < 48
      · have h1B : decide ((y.toNat : Int) < 48) = true := decide_eq_true (by omega)
        have HN : Hid (X = false) := by
          show _ = _
          rw [HX.out, hI.out, HD.out, areD_cons, decide_eq_false (by omega)]; rfl
        go_wp2_with fail
        go_ret
        exact ⟨by rw [HN.out]; rfl, rfl⟩
      · have h1B : decide ((y.toNat : Int) < 48) = false := decide_eq_false (by omega)
        by_cases h2 : 57 < y.toNat
        · have h2B : decide (57 < (y.toNat : Int)) = true := decide_eq_true (by omega)
          have HN : Hid (X = false) := by
            show _ = _
            rw [HX.out, hI.out, HD.out, areD_cons, decide_eq_false (by omega)]; rfl
          go_wp2_with fail
          go_ret
          exact ⟨by rw [HN.out]; rfl, rfl⟩
        · have h2B : decide (57 < (y.toNat : Int)) = false := decide_eq_false (by omega)
          have HN : Hid (areD l = areD (l.drop (i + 1))) := by
            show _ = _
            rw [hI.out, HD.out, areD_cons, decide_eq_true (by omega), Bool.true_and]
          go_wp2_with fail
          exact ⟨⟨i + 1, by omega, by simp, HN⟩, by simp [intOf]; omega⟩
    · obtain rfl : i = n := by omega
      have HN : Hid (X = decide (0 < i)) := by
        show _ = _
        rw [HX.out, hI.out, List.drop_of_length_le (by rw [hl.out]; exact Nat.le_refl _)]; rfl
      by_cases h0 : 0 < i
      · go_wp2_with fail
        go_ret
        exact ⟨by rw [HN.out, decide_eq_true h0]; rfl, rfl⟩
      · obtain rfl : i = 0 := by omega
        go_wp2_with fail
        go_ret
        exact ⟨by rw [HN.out]; rfl, rfl⟩
end Go.Proofs.YtjdmhbfddklhnaaDoor
