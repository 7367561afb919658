/-
  The program's package date: a clock's time's number, a day's number. Conditions: years up to 9999.
-/
import Derived.Test.YtjdmhbfddklhnaaDoorDatP1
set_option linter.unusedSimpArgs false
set_option linter.unusedVariables false
set_option maxRecDepth 100000
namespace Go.Proofs.YtjdmhbfddklhnaaDoor
open Go Go.Proofs Go.RowKit Dat

set_option maxHeartbeats 2000000 in
theorem pClockN_any (h m s : Nat) (w : World) (hh : h ≤ 1000000000) (hm : m ≤ 1000000000) (hs : s ≤ 1000000000) : Calls Tryd.prog 58 #[.int .i64 h, .int .i64 m, .int .i64 s] w fun e w' => e = .returned (opt2 (clockN h m s)) ∧ w' = w := by
  obtain ⟨r, hr⟩ : ∃ r, r = clockN h m s := ⟨_, rfl⟩
  rw [← hr]
  have HR := Lib.hid hr
  clear hr
  by_cases c1 : 23 < h
  · have b1 : decide (23 < (h : Int)) = true := decide_eq_true (by omega)
    have HN : Hid (r = none) := by show _ = _; rw [HR.out]; unfold clockN; rw [if_neg (by omega)]
    clear c1
    go_enter Tryd.func58, Tryd.ntmps58
    go_wp2
    go_ret2
    exact ⟨by rw [HN.out]; rfl, rfl⟩
  have b1 : decide (23 < (h : Int)) = false := decide_eq_false (by omega)
  by_cases c2 : 59 < m
  · have b2 : decide (59 < (m : Int)) = true := decide_eq_true (by omega)
    have HN : Hid (r = none) := by show _ = _; rw [HR.out]; unfold clockN; rw [if_neg (by omega)]
    clear c1 c2
    go_enter Tryd.func58, Tryd.ntmps58
    go_wp2
    go_ret2
    exact ⟨by rw [HN.out]; rfl, rfl⟩
  have b2 : decide (59 < (m : Int)) = false := decide_eq_false (by omega)
  by_cases c3 : 59 < s
  · have b3 : decide (59 < (s : Int)) = true := decide_eq_true (by omega)
    have HN : Hid (r = none) := by show _ = _; rw [HR.out]; unfold clockN; rw [if_neg (by omega)]
    clear c1 c2 c3
    go_enter Tryd.func58, Tryd.ntmps58
    go_wp2
    go_ret2
    exact ⟨by rw [HN.out]; rfl, rfl⟩
  have b3 : decide (59 < (s : Int)) = false := decide_eq_false (by omega)
  have HN : Hid (r = some (3600 * h + 60 * m + s)) := by show _ = _; rw [HR.out]; unfold clockN; rw [if_pos (by omega)]
  go_enter Tryd.func58, Tryd.ntmps58
  go_wp2
  go_ret2
  refine ⟨?_, rfl⟩
  rw [HN.out]
  exact opt2_some (by simp; omega)

set_option maxHeartbeats 4000000 in
theorem pDayN_any (y m d : Nat) (w : World) (hy : y ≤ 9999) (hm : m ≤ 1000000000) (hd : d ≤ 1000000000) : Calls Tryd.prog 61 #[.int .i64 y, .int .i64 m, .int .i64 d] w fun e w' => e = .returned (opt2 (dayN y m d)) ∧ w' = w := by
  obtain ⟨r, hr⟩ : ∃ r, r = dayN y m d := ⟨_, rfl⟩
  rw [← hr]
  have HR := Lib.hid hr
  clear hr
  by_cases c1 : m < 1
  · have b1 : decide ((m : Int) < 1) = true := decide_eq_true (by omega)
    have HN : Hid (r = none) := by show _ = _; rw [HR.out]; unfold dayN; rw [if_neg (by omega)]
    clear c1
    go_enter Tryd.func61, Tryd.ntmps61
    go_wp2
    go_ret2
    exact ⟨by rw [HN.out]; rfl, rfl⟩
  have b1 : decide ((m : Int) < 1) = false := decide_eq_false (by omega)
  by_cases c2 : 12 < m
  · have b2 : decide (12 < (m : Int)) = true := decide_eq_true (by omega)
    have HN : Hid (r = none) := by show _ = _; rw [HR.out]; unfold dayN; rw [if_neg (by omega)]
    clear c1 c2
    go_enter Tryd.func61, Tryd.ntmps61
    go_wp2
    go_ret2
    exact ⟨by rw [HN.out]; rfl, rfl⟩
  have b2 : decide (12 < (m : Int)) = false := decide_eq_false (by omega)
  by_cases c3 : d < 1
  · have b3 : decide ((d : Int) < 1) = true := decide_eq_true (by omega)
    have HN : Hid (r = none) := by show _ = _; rw [HR.out]; unfold dayN; rw [if_neg (by omega)]
    clear c1 c2 c3
    go_enter Tryd.func61, Tryd.ntmps61
    go_wp2
    go_ret2
    exact ⟨by rw [HN.out]; rfl, rfl⟩
  have b3 : decide ((d : Int) < 1) = false := decide_eq_false (by omega)
  have hm1 : 1 ≤ m := by omega
  have hm2 : m ≤ 12 := by omega
  have hd1 : 1 ≤ d := by omega
  clear c1 c2 c3
  have K : Hid (∀ k : Nat, 1 ≤ k → k ≤ 12 → ∀ w, Calls Tryd.prog 73 #[.int .i64 y, .int .i64 k] w fun e w' => e = .returned (.int .i64 (days y k : Nat)) ∧ w' = w) := fun k h1 h2 w => pDays_any y k w (by omega) h1 h2
  have hdl := days_le y m
  obtain ⟨D, hD⟩ : ∃ D, D = days y m := ⟨_, rfl⟩
  rw [← hD] at hdl
  have HD := Lib.hid hD
  clear hD
  by_cases c4 : D < d
  · have b4 : decide (D < d) = true := decide_eq_true (by omega)
    have HN : Hid (r = none) := by show _ = _; rw [HR.out]; unfold dayN; rw [if_neg (by rw [← HD.out]; omega)]
    clear c4
    go_enter Tryd.func61, Tryd.ntmps61
    go_wp2_with (go_at_call 73; refine (K.out m hm1 hm2 _).mono ?_; rintro e w' ⟨rfl, rfl⟩; rw [← HD.out])
    go_ret2
    exact ⟨by rw [HN.out]; rfl, rfl⟩
  have b4 : decide (D < d) = false := decide_eq_false (by omega)
  have HN : Hid (r = some (aheadN y + mo y m + (d - 1))) := by show _ = _; rw [HR.out]; unfold dayN; rw [if_pos ⟨hm1, hm2, hd1, by rw [← HD.out]; omega⟩]
  clear c4
  have hal := ahead_top (show y ≤ 10000 by omega)
  obtain ⟨a, ha⟩ : ∃ a, a = aheadN y := ⟨_, rfl⟩
  rw [← ha] at hal HN
  have KA : Hid (∀ w, Calls Tryd.prog 74 #[.int .i64 y] w fun e w' => e = .returned (.int .i64 (a : Int)) ∧ w' = w) := fun w => by rw [ha]; exact pAhead_any y w (by omega)
  clear ha
  have hMo : Hid (∀ k : Nat, 1 ≤ k → k ≤ 13 → mo y k ≤ 366) := fun k => mo_top y
  have hMs : Hid (∀ k : Nat, 1 ≤ k → mo y (k + 1) = mo y k + days y k) := fun k => mo_step y
  have hM1 : Hid (mo y 1 = 0) := rfl
  have hDk : Hid (∀ k : Nat, days y k ≤ 31) := days_le y
  go_enter Tryd.func61, Tryd.ntmps61
  go_wp2_with first | (go_at_call 73; refine (K.out m hm1 hm2 _).mono ?_; rintro e w' ⟨rfl, rfl⟩; rw [← HD.out]) | (go_at_call 74; refine (KA.out _).mono ?_; rintro e w' ⟨rfl, rfl⟩)
  go_loop [8, 9] (fun p q => ∃ (k v : Nat), 1 ≤ k ∧ k ≤ m ∧ p = .int .i64 v ∧ q = .int .i64 k ∧ Hid (v = a + (d - 1) + mo y k)) (fun _ q => m - (intOf q).toNat)
  case atStart => exact ⟨1, a + (d - 1), Nat.le_refl _, hm1, by congr 1; omega, rfl, by show _ = _; rw [hM1.out, Nat.add_zero]⟩
  case round =>
    obtain ⟨k, v, hk1, hk2, rfl, rfl, hv⟩ := hrel
    have hvl : v ≤ 2000000000 := by have := hMo.out k hk1 (by omega); rw [hv.out]; omega
    by_cases hlt : k < m
    · have hdl' := hDk.out k
      have hms := hMs.out k hk1
      obtain ⟨E, hE⟩ : ∃ E, E = days y k := ⟨_, rfl⟩
      rw [← hE] at hdl' hms
      have HE := Lib.hid hE
      have HM := Lib.hid hms
      clear hE hms
      go_wp2_with (go_at_call 73; refine (K.out k hk1 (by omega) _).mono ?_; rintro e w' ⟨rfl, rfl⟩; rw [← HE.out])
      refine ⟨⟨k + 1, v + E, by omega, by omega, by simp, by simp, ?_⟩, by simp [intOf]; omega⟩
      show _ = _
      rw [HM.out, hv.out]; omega
    · obtain rfl : k = m := by omega
      go_wp2_with fail
      go_ret2
      refine ⟨?_, rfl⟩
      rw [HN.out]
      exact opt2_some (by rw [hv.out]; omega)
end Go.Proofs.YtjdmhbfddklhnaaDoor
