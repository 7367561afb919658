/-
  Plain mathematics behind the program's package date: a text held against a shape, the calendar by a closed form, and a number's digits with noughts ahead. No conditions.
-/
import Derived.Test.YtjdmhbfddklhnaaDoorDatM
import Derived.Lib.ItoaNum
set_option linter.unusedVariables false
set_option linter.unusedSimpArgs false
namespace Go.Proofs.YtjdmhbfddklhnaaDoor
open Go

namespace Dat
/-- The numbers whose digits stand in a text of a shape. -/
def numsR : List UInt8 → List UInt8 → List Nat → Nat → Option (List Nat)
  | [], _, init, last => some (init ++ [last])
  | s :: sh, c :: l, init, last => if s = 48 then (if dg c = true then numsR sh l init (10 * last + dv c) else none) else if c = s then numsR sh l (init ++ [last]) 0 else none
  | _ :: _, [], _, _ => none
/-- No run of digits is too long. -/
def fits : List UInt8 → Nat → Bool
  | [], _ => true
  | s :: sh, k => if s = 48 then decide (k < 17) && fits sh (k + 1) else fits sh 0
def clockS : List UInt8 := [48, 48, 58, 48, 48, 58, 48, 48]
def dateS : List UInt8 := [48, 48, 48, 48, 45, 48, 48, 45, 48, 48, 95, 48, 48, 58, 48, 48, 58, 48, 48]
theorem fits_clock : fits clockS 0 = true := by decide
theorem fits_date : fits dateS 0 = true := by decide

def clockN (h m s : Nat) : Option Nat := if h ≤ 23 ∧ m ≤ 59 ∧ s ≤ 59 then some (3600 * h + 60 * m + s) else none
def dayN (y m d : Nat) : Option Nat := if 1 ≤ m ∧ m ≤ 12 ∧ 1 ≤ d ∧ d ≤ days y m then some (aheadN y + mo y m + (d - 1)) else none
def dateN (y m d h i s : Nat) : Option Nat :=
  match dayN y m d, clockN h i s with
  | some a, some b => some (a * 86400 + b)
  | _, _ => none
def clockOf : Option (List Nat) → Option Nat
  | some [h, m, s] => clockN h m s
  | _ => none
def dateOf : Option (List Nat) → Option Nat
  | some [y, m, d, h, i, s] => dateN y m d h i s
  | _ => none

theorem nums_zero {sh l : List UInt8} {init : List Nat} {last : Nat} {c : UInt8} (h : dg c = true) : numsR (48 :: sh) (c :: l) init last = numsR sh l init (10 * last + dv c) := by
  simp [numsR, h]
theorem nums_zero_no {sh l : List UInt8} {init : List Nat} {last : Nat} {c : UInt8} (h : dg c = false) : numsR (48 :: sh) (c :: l) init last = none := by
  simp [numsR, h]
theorem nums_sign {s : UInt8} {sh l : List UInt8} {init : List Nat} {last : Nat} (h : s ≠ 48) : numsR (s :: sh) (s :: l) init last = numsR sh l (init ++ [last]) 0 := by
  simp [numsR, h]
theorem nums_sign_no {s c : UInt8} {sh l : List UInt8} {init : List Nat} {last : Nat} (h : s ≠ 48) (hc : c ≠ s) : numsR (s :: sh) (c :: l) init last = none := by
  simp [numsR, h, hc]
theorem nums_clock (a b c d e f g k : UInt8) : numsR clockS [a, b, c, d, e, f, g, k] [] 0 =
    if (dg a = true ∧ dg b = true ∧ c = 58 ∧ dg d = true ∧ dg e = true ∧ f = 58 ∧ dg g = true ∧ dg k = true) then some [pr a b, pr d e, pr g k] else none := by
  have h58 : ¬ ((58 : UInt8) = 48) := by decide
  simp only [clockS, numsR, if_true, if_neg h58, Nat.mul_zero, Nat.zero_add, List.nil_append, List.cons_append]
  by_cases h1 : dg a = true <;> simp only [h1, if_true, if_false, true_and, false_and, Bool.false_eq_true]
  by_cases h2 : dg b = true <;> simp only [h2, if_true, if_false, true_and, false_and, Bool.false_eq_true]
  by_cases h3 : c = 58 <;> simp only [h3, if_true, if_false, true_and, false_and]
  by_cases h4 : dg d = true <;> simp only [h4, if_true, if_false, true_and, false_and, Bool.false_eq_true]
  by_cases h5 : dg e = true <;> simp only [h5, if_true, if_false, true_and, false_and, Bool.false_eq_true]
  by_cases h6 : f = 58 <;> simp only [h6, if_true, if_false, true_and, false_and]
  by_cases h7 : dg g = true <;> simp only [h7, if_true, if_false, true_and, false_and, Bool.false_eq_true]
  by_cases h8 : dg k = true <;> simp only [h8, if_true, if_false, true_and, false_and, Bool.false_eq_true]
  rfl

theorem clock_eval (a b c d e f g k : UInt8) : clockR [a, b, c, d, e, f, g, k] =
    if (dg a = true ∧ dg b = true ∧ c = 58 ∧ dg d = true ∧ dg e = true ∧ f = 58 ∧ dg g = true ∧ dg k = true) then clockN (pr a b) (pr d e) (pr g k) else none := by
  by_cases h : dg a = true ∧ dg b = true ∧ c = 58 ∧ dg d = true ∧ dg e = true ∧ f = 58 ∧ dg g = true ∧ dg k = true
  · rw [if_pos h]
    obtain ⟨h1, h2, rfl, h3, h4, rfl, h5, h6⟩ := h
    have t1 : two [a, b, 58, d, e, 58, g, k] 0 = some (pr a b) := by show (if dg a = true ∧ dg b = true then _ else _) = _; rw [if_pos ⟨h1, h2⟩]
    have t2 : two [a, b, 58, d, e, 58, g, k] 3 = some (pr d e) := by show (if dg d = true ∧ dg e = true then _ else _) = _; rw [if_pos ⟨h3, h4⟩]
    have t3 : two [a, b, 58, d, e, 58, g, k] 6 = some (pr g k) := by show (if dg g = true ∧ dg k = true then _ else _) = _; rw [if_pos ⟨h5, h6⟩]
    unfold clockR
    rw [if_pos ⟨rfl, rfl, rfl⟩, t1, t2, t3]
    rfl
  · rw [if_neg h]
    cases hc : clockR [a, b, c, d, e, f, g, k] with
    | none => rfl
    | some x =>
      obtain ⟨h1, h2, m1, m2, s1, s2, e0, ⟨g1, g2, g3, g4, g5, g6⟩, _⟩ := clock_form hc
      injection e0 with e1 e0; injection e0 with e2 e0; injection e0 with e3 e0; injection e0 with e4 e0; injection e0 with e5 e0; injection e0 with e6 e0; injection e0 with e7 e0; injection e0 with e8 e0
      subst e1 e2 e3 e4 e5 e6 e7 e8
      exact absurd ⟨g1, g2, rfl, g3, g4, rfl, g5, g6⟩ h

theorem clock_nums {l : List UInt8} (hl : l.length = 8) : clockR l = clockOf (numsR clockS l [] 0) := by
  match l, hl with
  | [a, b, c, d, e, f, g, k], _ =>
    rw [nums_clock, clock_eval]
    by_cases h : dg a = true ∧ dg b = true ∧ c = 58 ∧ dg d = true ∧ dg e = true ∧ f = 58 ∧ dg g = true ∧ dg k = true
    · rw [if_pos h, if_pos h]; rfl
    · rw [if_neg h, if_neg h]; rfl

/-- The signs that a date's text has at its places. -/
def dateAll (l : List UInt8) : Prop :=
  match l with
  | [a0, a1, a2, a3, a4, a5, a6, a7, a8, a9, a10, a11, a12, a13, a14, a15, a16, a17, a18] =>
    dg a0 = true ∧ dg a1 = true ∧ dg a2 = true ∧ dg a3 = true ∧ a4 = 45 ∧ dg a5 = true ∧ dg a6 = true ∧ a7 = 45 ∧ dg a8 = true ∧ dg a9 = true ∧ a10 = 95 ∧
      dg a11 = true ∧ dg a12 = true ∧ a13 = 58 ∧ dg a14 = true ∧ dg a15 = true ∧ a16 = 58 ∧ dg a17 = true ∧ dg a18 = true
  | _ => False

set_option maxHeartbeats 2000000 in
theorem nums_date (a0 a1 a2 a3 a4 a5 a6 a7 a8 a9 a10 a11 a12 a13 a14 a15 a16 a17 a18 : UInt8) :
    (dateAll [a0, a1, a2, a3, a4, a5, a6, a7, a8, a9, a10, a11, a12, a13, a14, a15, a16, a17, a18] →
      numsR dateS [a0, a1, a2, a3, a4, a5, a6, a7, a8, a9, a10, a11, a12, a13, a14, a15, a16, a17, a18] [] 0 = some [100 * pr a0 a1 + pr a2 a3, pr a5 a6, pr a8 a9, pr a11 a12, pr a14 a15, pr a17 a18]) ∧
    (¬ dateAll [a0, a1, a2, a3, a4, a5, a6, a7, a8, a9, a10, a11, a12, a13, a14, a15, a16, a17, a18] →
      numsR dateS [a0, a1, a2, a3, a4, a5, a6, a7, a8, a9, a10, a11, a12, a13, a14, a15, a16, a17, a18] [] 0 = none) := by
  unfold dateAll dateS
  constructor
  · rintro ⟨g0, g1, g2, g3, rfl, g5, g6, rfl, g8, g9, rfl, g11, g12, rfl, g14, g15, rfl, g17, g18⟩
    rw [nums_zero g0, nums_zero g1, nums_zero g2, nums_zero g3, nums_sign (by decide), nums_zero g5, nums_zero g6, nums_sign (by decide), nums_zero g8, nums_zero g9, nums_sign (by decide), nums_zero g11, nums_zero g12, nums_sign (by decide), nums_zero g14, nums_zero g15, nums_sign (by decide), nums_zero g17, nums_zero g18]
    unfold pr numsR
    simp only [List.nil_append, List.cons_append, Option.some.injEq, List.cons.injEq, and_true]
    omega
  · intro h
    by_cases g0 : dg a0 = true
    rotate_left
    · rw [nums_zero_no (by simpa using g0)]
    rw [nums_zero g0]
    by_cases g1 : dg a1 = true
    rotate_left
    · rw [nums_zero_no (by simpa using g1)]
    rw [nums_zero g1]
    by_cases g2 : dg a2 = true
    rotate_left
    · rw [nums_zero_no (by simpa using g2)]
    rw [nums_zero g2]
    by_cases g3 : dg a3 = true
    rotate_left
    · rw [nums_zero_no (by simpa using g3)]
    rw [nums_zero g3]
    by_cases g4 : a4 = 45
    rotate_left
    · rw [nums_sign_no (by decide) g4]
    subst g4
    rw [nums_sign (by decide)]
    by_cases g5 : dg a5 = true
    rotate_left
    · rw [nums_zero_no (by simpa using g5)]
    rw [nums_zero g5]
    by_cases g6 : dg a6 = true
    rotate_left
    · rw [nums_zero_no (by simpa using g6)]
    rw [nums_zero g6]
    by_cases g7 : a7 = 45
    rotate_left
    · rw [nums_sign_no (by decide) g7]
    subst g7
    rw [nums_sign (by decide)]
    by_cases g8 : dg a8 = true
    rotate_left
    · rw [nums_zero_no (by simpa using g8)]
    rw [nums_zero g8]
    by_cases g9 : dg a9 = true
    rotate_left
    · rw [nums_zero_no (by simpa using g9)]
    rw [nums_zero g9]
    by_cases g10 : a10 = 95
    rotate_left
    · rw [nums_sign_no (by decide) g10]
    subst g10
    rw [nums_sign (by decide)]
    by_cases g11 : dg a11 = true
    rotate_left
    · rw [nums_zero_no (by simpa using g11)]
    rw [nums_zero g11]
    by_cases g12 : dg a12 = true
    rotate_left
    · rw [nums_zero_no (by simpa using g12)]
    rw [nums_zero g12]
    by_cases g13 : a13 = 58
    rotate_left
    · rw [nums_sign_no (by decide) g13]
    subst g13
    rw [nums_sign (by decide)]
    by_cases g14 : dg a14 = true
    rotate_left
    · rw [nums_zero_no (by simpa using g14)]
    rw [nums_zero g14]
    by_cases g15 : dg a15 = true
    rotate_left
    · rw [nums_zero_no (by simpa using g15)]
    rw [nums_zero g15]
    by_cases g16 : a16 = 58
    rotate_left
    · rw [nums_sign_no (by decide) g16]
    subst g16
    rw [nums_sign (by decide)]
    by_cases g17 : dg a17 = true
    rotate_left
    · rw [nums_zero_no (by simpa using g17)]
    rw [nums_zero g17]
    by_cases g18 : dg a18 = true
    rotate_left
    · rw [nums_zero_no (by simpa using g18)]
    rw [nums_zero g18]
    exact absurd ⟨g0, g1, g2, g3, rfl, g5, g6, rfl, g8, g9, rfl, g11, g12, rfl, g14, g15, rfl, g17, g18⟩ h

theorem date_nums {l : List UInt8} (hl : l.length = 19) : dateR l = dateOf (numsR dateS l [] 0) := by
  match l, hl with
  | [a0, a1, a2, a3, a4, a5, a6, a7, a8, a9, a10, a11, a12, a13, a14, a15, a16, a17, a18], _ =>
    obtain ⟨hp, hn⟩ := nums_date a0 a1 a2 a3 a4 a5 a6 a7 a8 a9 a10 a11 a12 a13 a14 a15 a16 a17 a18
    by_cases h : dateAll [a0, a1, a2, a3, a4, a5, a6, a7, a8, a9, a10, a11, a12, a13, a14, a15, a16, a17, a18]
    · rw [hp h]
      obtain ⟨g0, g1, g2, g3, rfl, g5, g6, rfl, g8, g9, rfl, g11, g12, rfl, g14, g15, rfl, g17, g18⟩ := h
      have t1 : two [a0, a1, a2, a3, 45, a5, a6, 45, a8, a9, 95, a11, a12, 58, a14, a15, 58, a17, a18] 0 = some (pr a0 a1) := by show (if dg a0 = true ∧ dg a1 = true then _ else _) = _; rw [if_pos ⟨g0, g1⟩]
      have t2 : two [a0, a1, a2, a3, 45, a5, a6, 45, a8, a9, 95, a11, a12, 58, a14, a15, 58, a17, a18] 2 = some (pr a2 a3) := by show (if dg a2 = true ∧ dg a3 = true then _ else _) = _; rw [if_pos ⟨g2, g3⟩]
      have t3 : two [a0, a1, a2, a3, 45, a5, a6, 45, a8, a9, 95, a11, a12, 58, a14, a15, 58, a17, a18] 5 = some (pr a5 a6) := by show (if dg a5 = true ∧ dg a6 = true then _ else _) = _; rw [if_pos ⟨g5, g6⟩]
      have t4 : two [a0, a1, a2, a3, 45, a5, a6, 45, a8, a9, 95, a11, a12, 58, a14, a15, 58, a17, a18] 8 = some (pr a8 a9) := by show (if dg a8 = true ∧ dg a9 = true then _ else _) = _; rw [if_pos ⟨g8, g9⟩]
      have t5 : clockR ([a0, a1, a2, a3, 45, a5, a6, 45, a8, a9, 95, a11, a12, 58, a14, a15, 58, a17, a18].drop 11) = clockN (pr a11 a12) (pr a14 a15) (pr a17 a18) := by
        show clockR [a11, a12, 58, a14, a15, 58, a17, a18] = _
        rw [clock_eval, if_pos ⟨g11, g12, rfl, g14, g15, rfl, g17, g18⟩]
      unfold dateR
      rw [if_pos ⟨rfl, rfl, rfl, rfl⟩, t1, t2, t3, t4, t5]
      show dateV _ _ _ _ _ = dateN _ _ _ _ _ _
      unfold dateN dayN
      cases clockN (pr a11 a12) (pr a14 a15) (pr a17 a18) with
      | none => unfold dateV; split <;> rename_i h1 _ <;> simp_all
      | some n =>
        unfold dateV
        dsimp only
        by_cases hc : 1 ≤ pr a5 a6 ∧ pr a5 a6 ≤ 12 ∧ 1 ≤ pr a8 a9 ∧ pr a8 a9 ≤ days (100 * pr a0 a1 + pr a2 a3) (pr a5 a6)
        · rw [if_pos hc, if_pos hc]
        · rw [if_neg hc, if_neg hc]
    · rw [hn h]
      cases hc : dateR [a0, a1, a2, a3, a4, a5, a6, a7, a8, a9, a10, a11, a12, a13, a14, a15, a16, a17, a18] with
      | none => rfl
      | some x =>
        obtain ⟨g, hg, e0, _⟩ := date_form hc
        rw [e0] at h
        exact absurd ⟨hg.y12.1, hg.y12.2, hg.y34.1, hg.y34.2, rfl, hg.m.1, hg.m.2, rfl, hg.d.1, hg.d.2, rfl, hg.h.1, hg.h.2, rfl, hg.i.1, hg.i.2, rfl, hg.s.1, hg.s.2⟩ h

theorem date_short {l : List UInt8} (h : l.length ≠ 19) : dateR l = none := by
  unfold dateR; rw [if_neg (fun k => h k.1)]
theorem clock_short {l : List UInt8} (h : l.length ≠ 8) : clockR l = none := by
  unfold clockR; rw [if_neg (fun k => h k.1)]

theorem fits_zero {sh : List UInt8} {k : Nat} (h : fits (48 :: sh) k = true) : k < 17 ∧ fits sh (k + 1) = true := by
  simpa [fits] using h
theorem fits_sign {s : UInt8} {sh : List UInt8} {k : Nat} (hs : s ≠ 48) (h : fits (s :: sh) k = true) : fits sh 0 = true := by
  simpa [fits, hs] using h

/-- The calendar by a closed form. -/
theorem ahead_closed : ∀ y, aheadN y + (y + 99) / 100 = 365 * y + (y + 3) / 4 + (y + 399) / 400
  | 0 => rfl
  | y + 1 => by
    have ih := ahead_closed y
    rw [aheadN]
    unfold yearLen days leap
    by_cases h1 : y % 400 = 0
    · simp only [h1, decide_true, Bool.true_or, and_self, if_true]; omega
    · by_cases h2 : y % 4 = 0
      · by_cases h3 : y % 100 = 0
        · simp only [h1, h2, h3, decide_true, decide_false, Bool.not_true, Bool.and_false, Bool.or_self, Bool.false_eq_true, and_false, if_false, plain, List.getD]
          show _ + (337 + 28) + _ = _
          omega
        · simp only [h1, h2, h3, decide_true, decide_false, Bool.not_false, Bool.and_self, Bool.or_true, and_self, if_true]; omega
      · simp only [h1, h2, decide_false, Bool.false_and, Bool.or_self, Bool.false_eq_true, and_false, if_false, plain, List.getD]
        show _ + (337 + 28) + _ = _
        omega
theorem ahead_top {y : Nat} (h : y ≤ 10000) : aheadN y ≤ 3652425 := by
  have := ahead_mono y (10000 - y)
  rw [show y + (10000 - y) = 10000 by omega, ahead_10000] at this
  split at this <;> omega
theorem year_len (y : Nat) : yearLen y ≤ 366 := by
  unfold yearLen days
  split
  · omega
  · show 337 + 28 ≤ 366; omega
theorem ahead_366 : ∀ y, aheadN y ≤ 366 * y
  | 0 => by decide
  | y + 1 => by have := ahead_366 y; have := year_len y; rw [aheadN]; omega
theorem mo_top (y : Nat) {m : Nat} (h1 : 1 ≤ m) (h2 : m ≤ 13) : mo y m ≤ 366 := by
  have := mo_mono y h1 (13 - m)
  rw [show m + (13 - m) = 13 by omega, mo13] at this
  have := year_len y
  split at * <;> omega
theorem days_pos (y : Nat) {m : Nat} (h1 : 1 ≤ m) (h2 : m ≤ 12) : 28 ≤ days y m := by
  unfold days
  split
  · omega
  · have : m = 1 ∨ m = 2 ∨ m = 3 ∨ m = 4 ∨ m = 5 ∨ m = 6 ∨ m = 7 ∨ m = 8 ∨ m = 9 ∨ m = 10 ∨ m = 11 ∨ m = 12 := by omega
    rcases this with rfl | rfl | rfl | rfl | rfl | rfl | rfl | rfl | rfl | rfl | rfl | rfl <;> decide

/-- A digit. -/
def dgt (n : Nat) : UInt8 := UInt8.ofNat (48 + n)
theorem dgt_facts {n : Nat} (h : n < 10) : dg (dgt n) = true ∧ dv (dgt n) = n := by
  have : n = 0 ∨ n = 1 ∨ n = 2 ∨ n = 3 ∨ n = 4 ∨ n = 5 ∨ n = 6 ∨ n = 7 ∨ n = 8 ∨ n = 9 := by omega
  rcases this with rfl | rfl | rfl | rfl | rfl | rfl | rfl | rfl | rfl | rfl <;> decide
def pad2 (n : Nat) : List UInt8 := [dgt (n / 10), dgt (n % 10)]
def pad4 (n : Nat) : List UInt8 := [dgt (n / 1000), dgt (n / 100 % 10), dgt (n / 10 % 10), dgt (n % 10)]
theorem dec_short {n : Nat} (h : n < 10) : Lib.decDigits n = [dgt n] := Lib.decDigits_one h
theorem dec_long {n : Nat} (h : ¬ n < 10) : Lib.decDigits n = Lib.decDigits (n / 10) ++ [dgt (n % 10)] := by
  rw [Lib.decDigits, dif_neg h]; rfl
theorem pad_two {n : Nat} (h : n < 100) : List.replicate (2 - (Lib.decDigits n).length) 48 ++ Lib.decDigits n = pad2 n ∧ (Lib.decDigits n).length ≤ 2 := by
  unfold pad2
  by_cases h1 : n < 10
  · rw [dec_short h1, show n / 10 = 0 by omega, show n % 10 = n by omega]; exact ⟨rfl, by simp⟩
  · rw [dec_long h1, dec_short (show n / 10 < 10 by omega)]; exact ⟨rfl, by simp⟩
theorem pad_four {n : Nat} (h : n < 10000) : List.replicate (4 - (Lib.decDigits n).length) 48 ++ Lib.decDigits n = pad4 n ∧ (Lib.decDigits n).length ≤ 4 := by
  unfold pad4
  by_cases h1 : n < 10
  · rw [dec_short h1, show n / 1000 = 0 by omega, show n / 100 % 10 = 0 by omega, show n / 10 % 10 = 0 by omega, show n % 10 = n by omega]; exact ⟨rfl, by simp⟩
  rw [dec_long h1]
  by_cases h2 : n / 10 < 10
  · rw [dec_short h2, show n / 1000 = 0 by omega, show n / 100 % 10 = 0 by omega, show n / 10 % 10 = n / 10 by omega]; exact ⟨rfl, by simp⟩
  rw [dec_long h2]
  by_cases h3 : n / 10 / 10 < 10
  · rw [dec_short h3, show n / 1000 = 0 by omega, show n / 100 % 10 = n / 10 / 10 by omega]; exact ⟨rfl, by simp⟩
  rw [dec_long h3, dec_short (show n / 10 / 10 / 10 < 10 by omega), show n / 1000 = n / 10 / 10 / 10 by omega, show n / 100 % 10 = n / 10 / 10 % 10 by omega]
  exact ⟨rfl, by simp⟩

/-- The date of its parts. -/
def sgOf (y m d h i s : Nat) : Sg := ⟨dgt (y / 1000), dgt (y / 100 % 10), dgt (y / 10 % 10), dgt (y % 10), dgt (m / 10), dgt (m % 10), dgt (d / 10), dgt (d % 10), dgt (h / 10), dgt (h % 10), dgt (i / 10), dgt (i % 10), dgt (s / 10), dgt (s % 10)⟩
theorem pr_dgt {a b : Nat} (ha : a < 10) (hb : b < 10) : pr (dgt a) (dgt b) = 10 * a + b := by
  unfold pr; rw [(dgt_facts ha).2, (dgt_facts hb).2]
theorem put_date {y m d h i s : Nat} (hy : y < 10000) (hm : 1 ≤ m ∧ m ≤ 12) (hd : 1 ≤ d ∧ d ≤ days y m) (hh : h ≤ 23) (hi : i ≤ 59) (hs : s ≤ 59) :
    dateR (pad4 y ++ 45 :: (pad2 m ++ 45 :: (pad2 d ++ 95 :: (pad2 h ++ 58 :: (pad2 i ++ 58 :: pad2 s))))) = some ((aheadN y + mo y m + (d - 1)) * 86400 + (3600 * h + 60 * i + s)) := by
  have hd31 := days_le y m
  have ey : (sgOf y m d h i s).year = y := by
    unfold Sg.year sgOf
    dsimp only
    rw [pr_dgt (by omega) (by omega), pr_dgt (by omega) (by omega)]
    omega
  have q : ∀ n, n < 100 → pr (dgt (n / 10)) (dgt (n % 10)) = n := fun n hn => by rw [pr_dgt (by omega) (by omega)]; omega
  have hok : (sgOf y m d h i s).Ok := by
    refine ⟨⟨(dgt_facts (by omega)).1, (dgt_facts (by omega)).1⟩, ⟨(dgt_facts (by omega)).1, (dgt_facts (by omega)).1⟩, ⟨(dgt_facts (by omega)).1, (dgt_facts (by omega)).1⟩, ⟨(dgt_facts (by omega)).1, (dgt_facts (by omega)).1⟩, ⟨(dgt_facts (by omega)).1, (dgt_facts (by omega)).1⟩, ⟨(dgt_facts (by omega)).1, (dgt_facts (by omega)).1⟩, ⟨(dgt_facts (by omega)).1, (dgt_facts (by omega)).1⟩, ?_, ?_, ?_, ?_, ?_⟩
    · show 1 ≤ pr (dgt (m / 10)) (dgt (m % 10)) ∧ pr (dgt (m / 10)) (dgt (m % 10)) ≤ 12
      rw [q m (by omega)]; exact hm
    · rw [ey]
      show 1 ≤ pr (dgt (d / 10)) (dgt (d % 10)) ∧ pr (dgt (d / 10)) (dgt (d % 10)) ≤ days y (pr (dgt (m / 10)) (dgt (m % 10)))
      rw [q m (by omega), q d (by omega)]; exact hd
    · show pr (dgt (h / 10)) (dgt (h % 10)) ≤ 23
      rw [q h (by omega)]; exact hh
    · show pr (dgt (i / 10)) (dgt (i % 10)) ≤ 59
      rw [q i (by omega)]; exact hi
    · show pr (dgt (s / 10)) (dgt (s % 10)) ≤ 59
      rw [q s (by omega)]; exact hs
  have := date_of hok
  have et : (sgOf y m d h i s).text = pad4 y ++ 45 :: (pad2 m ++ 45 :: (pad2 d ++ 95 :: (pad2 h ++ 58 :: (pad2 i ++ 58 :: pad2 s)))) := rfl
  rw [et] at this
  rw [this]
  unfold Sg.num Sg.day Sg.clock
  rw [ey]
  show some ((aheadN y + (mo y (pr (dgt (m / 10)) (dgt (m % 10))) + (pr (dgt (d / 10)) (dgt (d % 10)) - 1))) * 86400 + (3600 * pr (dgt (h / 10)) (dgt (h % 10)) + 60 * pr (dgt (i / 10)) (dgt (i % 10)) + pr (dgt (s / 10)) (dgt (s % 10)))) = _
  rw [q m (by omega), q d (by omega), q h (by omega), q i (by omega), q s (by omega), Nat.add_assoc (aheadN y)]
end Dat
end Go.Proofs.YtjdmhbfddklhnaaDoor
