/-
  Plain mathematics: sums and products of small whole numbers as float64 are exact; what a number's text is, by its parts ahead of and behind the first full stop. No conditions.
-/
import Derived.Test.YtjdmhbfddklhnaaDoorNumOk
set_option linter.unusedSimpArgs false
set_option linter.unusedVariables false
namespace Go.Proofs.YtjdmhbfddklhnaaDoor
open Go

namespace Num9
open Ieee

theorem log2_shift {n : Nat} (h0 : 0 < n) (K : Nat) : (n * 2 ^ K).log2 = n.log2 + K := by
  apply log2_eq
  · rw [Nat.pow_add]; exact Nat.mul_le_mul_right _ (Nat.log2_self_le (by omega))
  · rw [show n.log2 + K + 1 = n.log2 + 1 + K by omega, Nat.pow_add]
    exact Nat.mul_lt_mul_of_pos_right Nat.lt_log2_self (Nat.pow_pos (by decide))

theorem cut_exact (x D : Nat) (h0 : 0 < x) : Toward.even.cut false (x * 2 ^ D) D = x := by
  unfold Toward.cut
  have h : min D ((x * 2 ^ D).log2 + 2) = D := by rw [log2_shift h0]; omega
  simp only [h, Nat.one_shiftLeft]
  rw [Nat.mul_div_cancel _ (Nat.pow_pos (by decide)), Nat.mul_mod_left]
  have h2 : decide (2 ^ D < 2 * 0) = false := by simp
  have h3 : (2 ^ D == 2 * 0) = false := by
    rw [beq_eq_false_iff_ne]
    have := Nat.pow_pos (n := D) (show 0 < 2 by decide); omega
  rw [h2, h3]; rfl

/-- A whole number that is written with noughts behind, at its place, is its own word. -/
theorem near_exact {n : Nat} (h0 : 0 < n) (h : n < 2 ^ 53) (K : Nat) : double.nearest false (n * 2 ^ K) (-(K : Int)) = conv n := by
  rw [conv_eq h0 h]
  have hl := log2_lt h0 h
  obtain ⟨hb1, hb2⟩ := norm_bounds h0 h
  have hp := Nat.pow_pos (n := K) (show 0 < 2 by decide)
  have hm : n * 2 ^ K ≠ 0 := Nat.mul_ne_zero (by omega) (by omega)
  unfold Format.nearest
  rw [if_neg hm]
  simp only [least, bin52, inf52, frac52, log2_shift h0]
  have e1 : max (-(K : Int) + ((n.log2 + K : Nat) : Int) - ((52 : Nat) : Int)) (-1074) = (n.log2 : Int) - 52 := by omega
  rw [e1]
  have e4 : ((n.log2 : Int) - 52 - -1074).toNat = n.log2 + 1022 := by omega
  rw [e4]
  have hc : Toward.even.cut false ((n * 2 ^ K) <<< (-(K : Int) - ((n.log2 : Int) - 52)).toNat) (((n.log2 : Int) - 52) - -(K : Int)).toNat = norm n := by
    rcases Nat.le_total K (52 - n.log2) with hK | hK
    · have e2 : (-(K : Int) - ((n.log2 : Int) - 52)).toNat = 52 - n.log2 - K := by omega
      have e3 : (((n.log2 : Int) - 52) - -(K : Int)).toNat = 0 := by omega
      rw [e2, e3, cut_zero, Nat.shiftLeft_eq, Nat.mul_assoc, ← Nat.pow_add]
      unfold norm
      congr 2; omega
    · have e2 : (-(K : Int) - ((n.log2 : Int) - 52)).toNat = 0 := by omega
      have e3 : (((n.log2 : Int) - 52) - -(K : Int)).toNat = K - (52 - n.log2) := by omega
      rw [e2, e3, Nat.shiftLeft_zero]
      have e5 : n * 2 ^ K = norm n * 2 ^ (K - (52 - n.log2)) := by
        unfold norm
        rw [Nat.mul_assoc, ← Nat.pow_add]
        congr 2; omega
      rw [e5]
      exact cut_exact _ _ (by omega)
  rw [hc]
  show double.word false (min ((n.log2 + 1022) * 2 ^ 52 + norm n) _) = _
  unfold Format.word
  simp only [Bool.false_eq_true, if_false]
  omega
theorem near_zero (p : Int) : double.nearest false 0 p = conv 0 := by
  unfold conv Format.nearest
  rw [if_pos rfl, if_pos rfl]

/-- How a small whole number's word reads. -/
theorem read_at {n : Nat} (h : n < 2 ^ 53) : ∃ K : Nat, double.read (conv n) = .number false (n * 2 ^ K) (-(K : Int)) := by
  rcases Nat.eq_zero_or_pos n with rfl | h0
  · have h : double.read (conv 0) = .number false 0 (-1074) := by rw [conv_zero]; decide
    obtain ⟨K, hK⟩ : ∃ K : Nat, (-1074 : Int) = -(K : Int) := ⟨1074, rfl⟩
    exact ⟨K, by rw [h, Nat.zero_mul, hK]⟩
  · refine ⟨52 - n.log2, ?_⟩
    rw [read_conv h0 h]
    have := log2_lt h0 h
    unfold norm
    congr 1; omega

theorem mul_conv {a b : Nat} (ha : a < 2 ^ 53) (hb : b < 2 ^ 53) (h : a * b < 2 ^ 53) : double.mul (conv a) (conv b) = some (conv (a * b)) := by
  obtain ⟨K, hK⟩ := read_at ha
  obtain ⟨J, hJ⟩ := read_at hb
  unfold Format.mul
  rw [hK, hJ]
  simp only [Datum.product, Option.map_some, Option.some.injEq, Format.write]
  show double.nearest (false ^^ false) _ _ = _
  have e : a * 2 ^ K * (b * 2 ^ J) = a * b * 2 ^ (K + J) := by rw [Nat.pow_add]; simp only [Nat.mul_assoc, Nat.mul_left_comm, Nat.mul_comm]
  have e2 : -(K : Int) + -(J : Int) = -((K + J : Nat) : Int) := by omega
  rw [e, e2]
  rcases Nat.eq_zero_or_pos (a * b) with h0 | h0
  · rw [h0, Nat.zero_mul]; exact near_zero _
  · exact near_exact h0 h _

theorem add_conv {a b : Nat} (ha : a < 2 ^ 53) (hb : b < 2 ^ 53) (h : a + b < 2 ^ 53) : double.add (conv a) (conv b) = some (conv (a + b)) := by
  obtain ⟨K, hK⟩ := read_at ha
  obtain ⟨J, hJ⟩ := read_at hb
  unfold Format.add
  rw [hK, hJ]
  obtain ⟨M, hM⟩ : ∃ M, M = max K J := ⟨_, rfl⟩
  have e0 : min (-(K : Int)) (-(J : Int)) = -(M : Int) := by omega
  have e1 : (-(K : Int) - -(M : Int)).toNat = M - K := by omega
  have e2 : (-(J : Int) - -(M : Int)).toNat = M - J := by omega
  have e3 : a * 2 ^ K * 2 ^ (M - K) = a * 2 ^ M := by rw [Nat.mul_assoc, ← Nat.pow_add]; congr 2; omega
  have e4 : b * 2 ^ J * 2 ^ (M - J) = b * 2 ^ M := by rw [Nat.mul_assoc, ← Nat.pow_add]; congr 2; omega
  have e5 : signed false (a * 2 ^ K) (M - K) + signed false (b * 2 ^ J) (M - J) = (((a + b) * 2 ^ M : Nat) : Int) := by
    unfold signed
    simp only [Bool.false_eq_true, if_false, Nat.shiftLeft_eq, e3, e4]
    rw [Nat.add_mul]; omega
  simp only [Datum.sum, e0, e1, e2, e5, Option.map_some, Option.some.injEq, Format.write]
  have e6 : (if (((a + b) * 2 ^ M : Nat) : Int) = 0 then false && false else decide ((((a + b) * 2 ^ M : Nat) : Int) < 0)) = false := by
    split
    · rfl
    · exact decide_eq_false (by omega)
  rw [e6, Int.natAbs_natCast]
  rcases Nat.eq_zero_or_pos (a + b) with h0 | h0
  · rw [h0, Nat.zero_mul]; exact near_zero _
  · exact near_exact h0 h _

/-- The number that digits are, behind another one. -/
def foldD (n : Nat) (l : List UInt8) : Nat := l.foldl (fun n c => 10 * n + (c.toNat - 48)) n
def areD (l : List UInt8) : Bool := l.all fun c => decide (48 ≤ c.toNat ∧ c.toNat ≤ 57)

theorem areD_cons (c : UInt8) (l : List UInt8) : areD (c :: l) = (decide (48 ≤ c.toNat ∧ c.toNat ≤ 57) && areD l) := by unfold areD; rw [List.all_cons]
theorem foldD_cons (n : Nat) (c : UInt8) (l : List UInt8) : foldD n (c :: l) = foldD (10 * n + (c.toNat - 48)) l := by unfold foldD; rw [List.foldl_cons]
theorem foldD_app (n : Nat) (l r : List UInt8) : foldD n (l ++ r) = foldD (foldD n l) r := by unfold foldD; rw [List.foldl_append]
theorem foldD_lt (l : List UInt8) : ∀ (n k : Nat), areD l = true → n < 10 ^ k → foldD n l < 10 ^ (k + l.length) := by
  induction l with
  | nil => intro n k _ h; exact h
  | cons c l ih =>
    intro n k hd h
    rw [areD_cons, Bool.and_eq_true, decide_eq_true_eq] at hd
    rw [foldD_cons, List.length_cons, show k + (l.length + 1) = k + 1 + l.length by omega]
    refine ih _ (k + 1) hd.2 ?_
    rw [Nat.pow_succ]; omega

/-- What stands ahead of a full stop, or is all there is. -/
theorem scan_part : ∀ (a t : List UInt8) (f : Bool) (n sc ct st : Nat), ct ≤ 15 → (st = 0 ∧ (∀ c ∈ a, c.toNat ≠ 46) ∨ 0 < st) →
    scan (a ++ t) f n sc ct st = if areD a = true ∧ ct + a.length ≤ 15 then scan t (f && a.isEmpty) (foldD n a) (sc + st * a.length) (ct + a.length) st else none
  | [], t, f, n, sc, ct, st, h, _ => by
    rw [if_pos ⟨rfl, by simpa using h⟩]
    simp [foldD]
  | c :: a, t, f, n, sc, ct, st, h, hs => by
    rw [List.cons_append]
    by_cases hc : c.toNat = 46
    · have hst : 0 < st := by
        rcases hs with ⟨_, h1⟩ | h1
        · exact absurd hc (h1 c (List.mem_cons_self))
        · exact h1
      rw [scan, if_pos hc, if_pos (.inl hst), if_neg]
      rw [areD_cons, Bool.and_eq_true, decide_eq_true_eq]
      omega
    · by_cases hd : c.toNat < 48 ∨ 57 < c.toNat
      · rw [scan, if_neg hc, if_pos (by omega), if_neg]
        rw [areD_cons, Bool.and_eq_true, decide_eq_true_eq]
        omega
      · by_cases h15 : ct = 15
        · rw [scan, if_neg hc, if_pos (by omega), if_neg]
          rw [List.length_cons]; omega
        · rw [scan, if_neg hc, if_neg (by omega), scan_part a t _ _ _ _ _ (by omega) (by
            rcases hs with ⟨h0, h1⟩ | h1
            · exact .inl ⟨h0, fun x hx => h1 x (List.mem_cons_of_mem _ hx)⟩
            · exact .inr h1)]
          have e : (areD (c :: a) = true ∧ ct + (c :: a).length ≤ 15) ↔ (areD a = true ∧ ct + 1 + a.length ≤ 15) := by
            rw [areD_cons, Bool.and_eq_true, decide_eq_true_eq, List.length_cons]
            constructor
            · rintro ⟨⟨_, h1⟩, h2⟩; exact ⟨h1, by omega⟩
            · rintro ⟨h1, h2⟩; exact ⟨⟨by omega, h1⟩, by omega⟩
          rw [foldD_cons]
          by_cases hp : areD a = true ∧ ct + 1 + a.length ≤ 15
          · rw [if_pos hp, if_pos (e.2 hp)]
            simp only [List.isEmpty_cons, Bool.and_false, Bool.false_and, List.length_cons]
            rw [show sc + st + st * a.length = sc + st * (a.length + 1) by rw [Nat.mul_add]; omega, show ct + 1 + a.length = ct + (a.length + 1) by omega]
          · rw [if_neg hp, if_neg (fun h => hp (e.1 h))]

/-- A text without a full stop. -/
theorem digits_whole (s : Bool) (a : List UInt8) (h : ∀ c ∈ a, c.toNat ≠ 46) : digitsR s a = if a.length ≤ 15 ∧ areD a = true ∧ 0 < a.length then .val s (foldD 0 a) 0 else .none := by
  have hs := scan_part a [] true 0 0 0 0 (by omega) (.inl ⟨rfl, h⟩)
  rw [List.append_nil] at hs
  unfold digitsR
  rw [hs]
  by_cases hp : areD a = true ∧ 0 + a.length ≤ 15
  · rw [if_pos hp]
    simp only [scan, Nat.zero_mul, Nat.zero_add]
    by_cases h0 : a.length = 0
    · rw [if_pos h0, if_neg (by omega)]
    · rw [if_neg h0, if_pos ⟨by omega, hp.1, by omega⟩]
  · rw [if_neg hp]
    simp only
    rw [if_neg (fun h => hp ⟨h.2.1, by omega⟩)]
/-- A text with one. -/
theorem digits_parts (s : Bool) (a b : List UInt8) (x : UInt8) (hx : x.toNat = 46) (h : ∀ c ∈ a, c.toNat ≠ 46) : digitsR s (a ++ x :: b) = if a.length + b.length ≤ 15 ∧ (areD a = true ∧ 0 < a.length) ∧ (areD b = true ∧ 0 < b.length) then .val s (foldD (foldD 0 a) b) b.length else .none := by
  have hs := scan_part a (x :: b) true 0 0 0 0 (by omega) (.inl ⟨rfl, h⟩)
  unfold digitsR
  rw [hs]
  by_cases hp : areD a = true ∧ 0 + a.length ≤ 15
  · rw [if_pos hp, scan, if_pos hx]
    by_cases h0 : a = []
    · subst h0
      rw [if_pos (.inr (.inl rfl)), if_neg (by simp)]
    · have hl : 0 < a.length := List.length_pos_iff.2 h0
      have hie : (true && a.isEmpty) = false := by cases a <;> simp_all
      by_cases hb : b = []
      · subst hb
        rw [if_pos (.inr (.inr rfl)), if_neg (by simp)]
      · have hbl : 0 < b.length := List.length_pos_iff.2 hb
        rw [if_neg (by
          rintro (h1 | h1 | h1)
          · omega
          · rw [hie] at h1; cases h1
          · exact hb h1)]
        have hs2 := scan_part b [] false (foldD 0 a) (0 + 0 * a.length) (0 + a.length) 1 (by omega) (.inr (by omega))
        rw [List.append_nil] at hs2
        rw [hs2]
        by_cases hq : areD b = true ∧ 0 + a.length + b.length ≤ 15
        · rw [if_pos hq, if_pos ⟨by omega, ⟨hp.1, hl⟩, hq.1, hbl⟩]
          simp only [scan]
          rw [if_neg (by omega)]
          congr 1; omega
        · rw [if_neg hq, if_neg (fun h => hq ⟨h.2.2.1, by omega⟩)]
  · rw [if_neg hp]
    simp only
    rw [if_neg (fun h => hp ⟨h.2.1.1, by omega⟩)]
/-- A one-byte sign laid on a word. -/
theorem sign_on {q : Nat} (h : q < 2 ^ 63) : Op.negFloat .f64 q = q + 2 ^ 63 := neg_small h
end Num9
end Go.Proofs.YtjdmhbfddklhnaaDoor
