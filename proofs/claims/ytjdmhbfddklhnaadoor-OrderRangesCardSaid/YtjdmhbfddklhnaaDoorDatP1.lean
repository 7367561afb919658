/-
  The program's package date: its calendar (daysAhead, daysOf, clockNumber, dayNumber). Conditions: years up to 10000, months and days of two digits.
-/
import Derived.Test.YtjdmhbfddklhnaaDoorDatPr
import Derived.Test.YtjdmhbfddklhnaaDoorDatGet2
set_option linter.unusedSimpArgs false
set_option linter.unusedVariables false
set_option maxRecDepth 100000
namespace Go.Proofs.YtjdmhbfddklhnaaDoor
open Go Go.Proofs Go.RowKit Dat

set_option maxHeartbeats 1000000 in
theorem pAhead_any (y : Nat) (w : World) (hy : y ≤ 10000) : Calls Tryd.prog 74 #[.int .i64 y] w fun e w' => e = .returned (.int .i64 (aheadN y : Int)) ∧ w' = w := by
  have hc := ahead_closed y
  obtain ⟨a, ha⟩ : ∃ a, a = aheadN y := ⟨_, rfl⟩
  rw [← ha] at hc ⊢
  obtain ⟨q4, h4⟩ : ∃ q, q = (y + 3) / 4 := ⟨_, rfl⟩
  obtain ⟨q1, h1⟩ : ∃ q, q = (y + 99) / 100 := ⟨_, rfl⟩
  obtain ⟨q0, h0⟩ : ∃ q, q = (y + 399) / 400 := ⟨_, rfl⟩
  have e4 : ((y : Int) + 3) / 4 = (q4 : Int) := by omega
  have e1 : ((y : Int) + 99) / 100 = (q1 : Int) := by omega
  have e0 : ((y : Int) + 399) / 400 = (q0 : Int) := by omega
  have b4 : q4 ≤ 2501 := by omega
  have b1 : q1 ≤ 101 := by omega
  have b0 : q0 ≤ 26 := by omega
  rw [← h4, ← h1, ← h0] at hc
  have HC := Lib.hid hc
  clear hc ha h4 h1 h0
  go_enter Tryd.func74, Tryd.ntmps74
  go_wp2
  go_ret
  refine ⟨?_, rfl⟩
  have e : (365 * (y : Int) + q4 - q1 + q0) = (a : Int) := by have := HC.out; omega
  show Ending.returned (.int .i64 (365 * (y : Int) + q4 - q1 + q0)) = _
  rw [e]

set_option maxHeartbeats 4000000 in
theorem pDays_any (y m : Nat) (w : World) (hy : y ≤ 100000) (h1 : 1 ≤ m) (h2 : m ≤ 12) : Calls Tryd.prog 73 #[.int .i64 y, .int .i64 m] w fun e w' => e = .returned (.int .i64 (days y m : Nat)) ∧ w' = w := by
  by_cases hm : m = 2
  · subst hm
    have hd : Hid (days y 2 = if leap y = true then 29 else 28) := by
      show _ = _
      unfold days
      by_cases h : leap y = true
      · rw [if_pos ⟨rfl, h⟩, if_pos h]
      · rw [if_neg (fun h' => h h'.2), if_neg h]; rfl
    by_cases h400 : y % 400 = 0
    · have hB : ((y : Int) % 400 == 0) = true := by rw [beq_iff_eq]; omega
      have hB4 : ((y : Int) % 4 == 0) = true := by rw [beq_iff_eq]; omega
      have hB1 : ((y : Int) % 100 != 0) = false := by rw [bne_eq_false_iff_eq]; omega
      have hl : Hid (leap y = true) := by show _ = _; rw [leap_cases, decide_eq_true h400]; rfl
      clear h400
      go_enter Tryd.func73, Tryd.ntmps73
      go_wp2
      go_ret
      exact ⟨by rw [hd.out, if_pos hl.out]; rfl, rfl⟩
    · have hB : ((y : Int) % 400 == 0) = false := by rw [beq_eq_false_iff_ne]; omega
      by_cases h4 : y % 4 = 0
      · have hB4 : ((y : Int) % 4 == 0) = true := by rw [beq_iff_eq]; omega
        by_cases h100 : y % 100 = 0
        · have hB100 : ((y : Int) % 100 != 0) = false := by rw [bne_eq_false_iff_eq]; omega
          have hl : Hid (leap y = false) := by show _ = _; rw [leap_cases, decide_eq_false h400, decide_eq_true h100]; simp
          clear h400 h4 h100
          go_enter Tryd.func73, Tryd.ntmps73
          go_wp2
          go_ret
          exact ⟨by rw [hd.out, if_neg (by rw [hl.out]; simp)]; rfl, rfl⟩
        · have hB100 : ((y : Int) % 100 != 0) = true := by rw [bne_iff_ne]; omega
          have hl : Hid (leap y = true) := by show _ = _; rw [leap_cases, decide_eq_true h4, decide_eq_false h100]; simp
          clear h400 h4 h100
          go_enter Tryd.func73, Tryd.ntmps73
          go_wp2
          go_ret
          exact ⟨by rw [hd.out, if_pos hl.out]; rfl, rfl⟩
      · have hB4 : ((y : Int) % 4 == 0) = false := by rw [beq_eq_false_iff_ne]; omega
        have hl : Hid (leap y = false) := by show _ = _; rw [leap_cases, decide_eq_false h400, decide_eq_false h4]; simp
        clear h400 h4
        go_enter Tryd.func73, Tryd.ntmps73
        go_wp2
        go_ret
        exact ⟨by rw [hd.out, if_neg (by rw [hl.out]; simp)]; rfl, rfl⟩
  · have hd : Hid (days y m = plain m) := by
      show _ = _
      unfold days
      rw [if_neg (fun h => hm h.1)]
    have : m = 1 ∨ m = 3 ∨ m = 4 ∨ m = 5 ∨ m = 6 ∨ m = 7 ∨ m = 8 ∨ m = 9 ∨ m = 10 ∨ m = 11 ∨ m = 12 := by omega
    clear h1 h2 hm hy
    rcases this with rfl | rfl | rfl | rfl | rfl | rfl | rfl | rfl | rfl | rfl | rfl
    all_goals
      go_enter Tryd.func73, Tryd.ntmps73
      go_wp2
      go_ret
      exact ⟨by rw [hd.out]; rfl, rfl⟩

end Go.Proofs.YtjdmhbfddklhnaaDoor
