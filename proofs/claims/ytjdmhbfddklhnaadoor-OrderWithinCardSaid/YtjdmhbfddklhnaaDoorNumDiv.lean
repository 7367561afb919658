/-
  Plain mathematics of float64 as words: the quotient of two small whole numbers, and that noughts behind both change nothing. No conditions.
-/
import Derived.Test.YtjdmhbfddklhnaaDoorNumF
set_option linter.unusedSimpArgs false
set_option linter.unusedVariables false
namespace Go.Proofs.YtjdmhbfddklhnaaDoor
open Go

namespace Num9
open Ieee

/-- The word of a small whole number. -/
def conv (n : Nat) : Nat := double.nearest false n 0
/-- The word of a quotient of two such ones. -/
def quo (n t : Nat) : Nat := ((double.div (conv n) (conv t)).getD 0)

def norm (n : Nat) : Nat := n * 2 ^ (52 - n.log2)

theorem log2_lt {n : Nat} (h0 : 0 < n) (h : n < 2 ^ 53) : n.log2 ≤ 52 := by
  have := (Nat.log2_lt (by omega)).2 h
  omega
theorem norm_bounds {n : Nat} (h0 : 0 < n) (h : n < 2 ^ 53) : 2 ^ 52 ≤ norm n ∧ norm n < 2 ^ 53 := by
  have hl := log2_lt h0 h
  have h1 := Nat.log2_self_le (n := n) (by omega)
  have h2 := Nat.lt_log2_self (n := n)
  unfold norm
  constructor
  · calc 2 ^ 52 = 2 ^ n.log2 * 2 ^ (52 - n.log2) := by rw [← Nat.pow_add]; congr 1; omega
      _ ≤ _ := Nat.mul_le_mul_right _ h1
  · calc n * 2 ^ (52 - n.log2) < 2 ^ (n.log2 + 1) * 2 ^ (52 - n.log2) := Nat.mul_lt_mul_of_pos_right h2 (Nat.pow_pos (by decide))
      _ = 2 ^ 53 := by rw [← Nat.pow_add]; congr 1; omega

theorem cut_zero (neg : Bool) (n : Nat) : Toward.even.cut neg n 0 = n := by
  unfold Toward.cut
  simp [Nat.mod_one]

theorem least : double.leastPlace = -1074 := rfl
theorem bin52 : double.binade = 2 ^ 52 := rfl
theorem inf52 : double.infRung = 2047 * 2 ^ 52 := rfl
theorem sig63 : double.signWeight = 2 ^ 63 := rfl
theorem frac52 : double.fractionBits = 52 := rfl

theorem conv_eq {n : Nat} (h0 : 0 < n) (h : n < 2 ^ 53) : conv n = (n.log2 + 1022) * 2 ^ 52 + norm n := by
  have hl := log2_lt h0 h
  obtain ⟨hb1, hb2⟩ := norm_bounds h0 h
  unfold conv Format.nearest
  rw [if_neg (by omega)]
  simp only [least, bin52, inf52, frac52]
  have e1 : max (0 + (n.log2 : Int) - ((52 : Nat) : Int)) (-1074) = (n.log2 : Int) - 52 := by omega
  rw [e1]
  have e2 : ((0 : Int) - ((n.log2 : Int) - 52)).toNat = 52 - n.log2 := by omega
  have e3 : ((n.log2 : Int) - 52 - 0).toNat = 0 := by omega
  have e4 : ((n.log2 : Int) - 52 - -1074).toNat = n.log2 + 1022 := by omega
  rw [e2, e3, e4, cut_zero, Nat.shiftLeft_eq]
  show double.word false (min ((n.log2 + 1022) * 2 ^ 52 + norm n) _) = _
  unfold Format.word
  simp only [Bool.false_eq_true, if_false]
  omega

theorem read_def (x : Nat) : double.read x = if x % 2 ^ 63 < 2 ^ 52 then .number (x / 2 ^ 63 % 2 == 1) (x % 2 ^ 63) (-1074) else if x % 2 ^ 63 < 2047 * 2 ^ 52 then .number (x / 2 ^ 63 % 2 == 1) (2 ^ 52 + x % 2 ^ 63 % 2 ^ 52) (-1074 + ((x % 2 ^ 63 / 2 ^ 52 - 1 : Nat) : Int)) else if x % 2 ^ 63 = 2047 * 2 ^ 52 then .infinity (x / 2 ^ 63 % 2 == 1) else .nan (x / 2 ^ 63 % 2 == 1) (x % 2 ^ 63 - 2047 * 2 ^ 52) := rfl

theorem read_rung {l N : Nat} (hl : l ≤ 52) (hb1 : 2 ^ 52 ≤ N) (hb2 : N < 2 ^ 53) : double.read ((l + 1022) * 2 ^ 52 + N) = .number false N ((l : Int) - 52) := by
  rw [read_def]
  have e1 : ((l + 1022) * 2 ^ 52 + N) / 2 ^ 63 = 0 := by omega
  have e2 : ((l + 1022) * 2 ^ 52 + N) % 2 ^ 63 = (l + 1022) * 2 ^ 52 + N := by omega
  rw [e1, e2, if_neg (by omega), if_pos (by omega)]
  have e3 : ((l + 1022) * 2 ^ 52 + N) % 2 ^ 52 = N - 2 ^ 52 := by omega
  have e4 : ((l + 1022) * 2 ^ 52 + N) / 2 ^ 52 = l + 1023 := by omega
  rw [e3, e4]
  have e5 : 2 ^ 52 + (N - 2 ^ 52) = N := by omega
  have e6 : (-1074 : Int) + ((l + 1023 - 1 : Nat) : Int) = (l : Int) - 52 := by omega
  rw [e5, e6]
  rfl
theorem read_conv {n : Nat} (h0 : 0 < n) (h : n < 2 ^ 53) : double.read (conv n) = .number false (norm n) ((n.log2 : Int) - 52) := by
  obtain ⟨hb1, hb2⟩ := norm_bounds h0 h
  rw [conv_eq h0 h, read_rung (log2_lt h0 h) hb1 hb2]

theorem conv_zero : conv 0 = 0 := by decide

/-- The rounded value of (A / B) * 2 ^ (p + 1). -/
def rnd (A B : Nat) (p : Int) : Nat := double.nearest false (2 * (A / B) + (A % B != 0).toNat) p

theorem rnd_scale (A B c : Nat) (p : Int) (hc : 0 < c) : rnd (A * c) (B * c) p = rnd A B p := by
  unfold rnd
  rw [Nat.mul_div_mul_right _ _ hc, Nat.mul_mod_mul_right]
  have : (A % B * c != 0) = (A % B != 0) := by
    by_cases h : A % B = 0
    · simp [h]
    · have : A % B * c ≠ 0 := Nat.mul_ne_zero h (by omega)
      rw [bne_iff_ne.2 this, bne_iff_ne.2 h]
  rw [this]

theorem log2_eq {n k : Nat} (h1 : 2 ^ k ≤ n) (h2 : n < 2 ^ (k + 1)) : n.log2 = k := by
  have h0 : n ≠ 0 := by have := Nat.pow_pos (n := k) (show 0 < 2 by decide); omega
  have a := (Nat.le_log2 h0).2 h1
  have b := (Nat.log2_lt h0).2 h2
  omega

theorem rnd_double (A B : Nat) (p : Int) (hB : 0 < B) (hq : 2 ^ 53 ≤ A / B) : rnd (A * 2) B (p - 1) = rnd A B p := by
  obtain ⟨q, hqe⟩ : ∃ q, q = A / B := ⟨_, rfl⟩
  obtain ⟨r, hr⟩ : ∃ r, r = A % B := ⟨_, rfl⟩
  have hrB : r < B := by rw [hr]; exact Nat.mod_lt _ hB
  have hA : A = B * q + r := by rw [hqe, hr]; exact (Nat.div_add_mod A B).symm
  obtain ⟨b, s2, h2d, h2m, hb⟩ : ∃ b s2 : Nat, A * 2 / B = 2 * q + b ∧ (A * 2 % B != 0).toNat = s2 ∧ b ≤ 1 ∧ s2 ≤ 1 ∧ ((r = 0 ∧ b = 0 ∧ s2 = 0) ∨ (r ≠ 0 ∧ 0 < b + s2)) := by
    by_cases h : 2 * r < B
    · have e : A * 2 = B * (2 * q) + 2 * r := by rw [hA, Nat.add_mul, Nat.mul_assoc, Nat.mul_comm q 2]; omega
      refine ⟨0, (A * 2 % B != 0).toNat, ?_, rfl, by omega, by cases (A * 2 % B != 0) <;> simp, ?_⟩
      · rw [e, Nat.mul_add_div hB, Nat.div_eq_of_lt h]
      · rw [e, Nat.mul_add_mod, Nat.mod_eq_of_lt h]
        by_cases h0 : r = 0
        · exact .inl ⟨h0, rfl, by simp [h0]⟩
        · exact .inr ⟨h0, by rw [bne_iff_ne.2 (show 2 * r ≠ 0 by omega)]; decide⟩
    · have e : A * 2 = B * (2 * q + 1) + (2 * r - B) := by rw [hA, Nat.add_mul, Nat.mul_assoc, Nat.mul_comm q 2, Nat.mul_add]; omega
      refine ⟨1, (A * 2 % B != 0).toNat, ?_, rfl, by omega, by cases (A * 2 % B != 0) <;> simp, .inr ⟨by omega, by omega⟩⟩
      rw [e, Nat.mul_add_div hB, Nat.div_eq_of_lt (by omega)]
  obtain ⟨hb1, hs2, hbs⟩ := hb
  obtain ⟨s, hs, hs1, hsr⟩ : ∃ s : Nat, (A % B != 0).toNat = s ∧ s ≤ 1 ∧ (s = 0 ↔ r = 0) := by
    refine ⟨_, rfl, by cases (A % B != 0) <;> simp, ?_⟩
    rw [← hr]
    by_cases h0 : r = 0
    · simp [h0]
    · rw [bne_iff_ne.2 h0]; simp [h0]
  unfold rnd
  rw [h2d, h2m, hs, ← hqe]
  rw [← hqe] at hq
  clear hA hrB hqe hr h2d h2m hs hB
  obtain ⟨k, hk1, hk2⟩ : ∃ k, 2 ^ k ≤ q ∧ q < 2 ^ (k + 1) := ⟨q.log2, Nat.log2_self_le (by omega), Nat.lt_log2_self⟩
  have hk53 : 53 ≤ k := by
    rcases Nat.lt_or_ge k 53 with h | h
    · have := Nat.pow_le_pow_right (n := 2) (by decide) (show k + 1 ≤ 53 by omega)
      omega
    · exact h
  have l1 : (2 * q + s).log2 = k + 1 := log2_eq (by rw [Nat.pow_succ]; omega) (by rw [Nat.pow_succ] at hk2; rw [Nat.pow_succ, Nat.pow_succ]; omega)
  have p2 : (2 : Nat) ^ (k + 2) = 4 * 2 ^ k := by rw [Nat.pow_add]; omega
  have p3 : (2 : Nat) ^ (k + 2 + 1) = 8 * 2 ^ k := by rw [Nat.pow_add, Nat.pow_add]; omega
  have p1 : (2 : Nat) ^ (k + 1) = 2 * 2 ^ k := by rw [Nat.pow_add]; omega
  have l2 : (2 * (2 * q + b) + s2).log2 = k + 2 := log2_eq (by rw [p2]; omega) (by rw [p3]; rw [p1] at hk2; omega)
  clear p1 p2 p3
  unfold Format.nearest
  rw [if_neg (by omega), if_neg (by omega)]
  simp only [l1, l2, frac52, least]
  have e1 : max (p - 1 + ((k + 2 : Nat) : Int) - ((52 : Nat) : Int)) (-1074) = max (p + ((k + 1 : Nat) : Int) - ((52 : Nat) : Int)) (-1074) := by omega
  rw [e1]
  obtain ⟨last, hlast⟩ : ∃ last, last = max (p + ((k + 1 : Nat) : Int) - ((52 : Nat) : Int)) (-1074) := ⟨_, rfl⟩
  rw [← hlast]
  have hl2 : p + 2 ≤ last := by omega
  have e2 : (p - last).toNat = 0 := by omega
  have e3 : (p - 1 - last).toNat = 0 := by omega
  obtain ⟨D, hD⟩ : ∃ D : Nat, last - p = D := ⟨(last - p).toNat, by omega⟩
  have e4 : (last - p).toNat = D := by omega
  have e5 : (last - (p - 1)).toNat = D + 1 := by omega
  rw [e2, e3, e4, e5, Nat.shiftLeft_zero, Nat.shiftLeft_zero]
  have hD2 : 2 ≤ D := by omega
  suffices hc : Toward.even.cut false (2 * (2 * q + b) + s2) (D + 1) = Toward.even.cut false (2 * q + s) D by rw [hc]
  unfold Toward.cut
  simp only [l1, l2, Nat.one_shiftLeft]
  obtain ⟨e, he⟩ : ∃ e, min D (k + 1 + 2) = e + 2 := ⟨min D (k + 1 + 2) - 2, by omega⟩
  have he' : min (D + 1) (k + 2 + 2) = e + 3 := by omega
  rw [he, he']
  have hH := Nat.pow_pos (n := e) (show 0 < 2 by decide)
  have p1 : (2 : Nat) ^ (e + 2) = 4 * 2 ^ e := by rw [Nat.pow_add]; omega
  have p2 : (2 : Nat) ^ (e + 3) = 8 * 2 ^ e := by rw [Nat.pow_add]; omega
  rw [p1, p2]
  generalize (2 : Nat) ^ e = H at *
  obtain ⟨Q, hQ⟩ : ∃ Q, Q = q % (2 * H) := ⟨_, rfl⟩
  obtain ⟨lo, hlo⟩ : ∃ lo, lo = q / (2 * H) := ⟨_, rfl⟩
  have hQH : Q < 2 * H := by rw [hQ]; exact Nat.mod_lt _ (by omega)
  have hqq : q = 2 * H * lo + Q := by rw [hQ, hlo]; exact (Nat.div_add_mod _ _).symm
  have t1 : 2 * H * lo = 2 * (H * lo) := Nat.mul_assoc ..
  have t2 : 4 * H * lo = 4 * (H * lo) := Nat.mul_assoc ..
  have t3 : 8 * H * lo = 8 * (H * lo) := Nat.mul_assoc ..
  rw [t1] at hqq
  have m1 : 2 * q + s = 4 * H * lo + (2 * Q + s) := by rw [t2]; omega
  have m2 : 2 * (2 * q + b) + s2 = 8 * H * lo + (4 * Q + 2 * b + s2) := by rw [t3]; omega
  rw [m1, m2, Nat.mul_add_div (by omega), Nat.mul_add_div (by omega), Nat.mul_add_mod, Nat.mul_add_mod, Nat.div_eq_of_lt (show 2 * Q + s < 4 * H by omega), Nat.div_eq_of_lt (show 4 * Q + 2 * b + s2 < 8 * H by omega), Nat.mod_eq_of_lt (show 2 * Q + s < 4 * H by omega), Nat.mod_eq_of_lt (show 4 * Q + 2 * b + s2 < 8 * H by omega)]
  have c1 : decide (8 * H < 2 * (4 * Q + 2 * b + s2)) = decide (4 * H < 2 * (2 * Q + s)) := by
    apply decide_eq_decide.2; omega
  have c2 : (8 * H == 2 * (4 * Q + 2 * b + s2)) = (4 * H == 2 * (2 * Q + s)) := by
    rw [Bool.eq_iff_iff, beq_iff_eq, beq_iff_eq]; omega
  rw [c1, c2]

theorem quo_eq {n t : Nat} (hn : 0 < n) (hn2 : n < 2 ^ 53) (ht : 0 < t) (ht2 : t < 2 ^ 53) : double.div (conv n) (conv t) = some (rnd (norm n * 2 ^ 54) (norm t) ((n.log2 : Int) - t.log2 - 55)) := by
  unfold Format.div
  rw [read_conv hn hn2, read_conv ht ht2]
  obtain ⟨a1, a2⟩ := norm_bounds hn hn2
  obtain ⟨b1, b2⟩ := norm_bounds ht ht2
  unfold Datum.quotient
  simp only [frac52]
  rw [if_neg (by omega)]
  have e1 : (norm n).log2 = 52 := log2_eq a1 a2
  have e2 : (norm t).log2 = 52 := log2_eq b1 b2
  rw [e1, e2]
  simp only [Option.map_some, Option.some.injEq, Format.write, Nat.shiftLeft_eq]
  show double.nearest (false ^^ false) _ _ = rnd _ _ _
  unfold rnd
  have e3 : (n.log2 : Int) - 52 - ((t.log2 : Int) - 52) - ((52 + 2 + 52 - 52 : Nat) : Int) - 1 = (n.log2 : Int) - t.log2 - 55 := by omega
  rw [e3]
  rfl

theorem quo_zero {t : Nat} (ht : 0 < t) (ht2 : t < 2 ^ 53) : double.div (conv 0) (conv t) = some 0 := by
  unfold Format.div
  have hr : double.read (conv 0) = .number false 0 (-1074) := by rw [conv_zero]; decide
  rw [hr, read_conv ht ht2]
  obtain ⟨b1, b2⟩ := norm_bounds ht ht2
  unfold Datum.quotient
  simp only
  rw [if_neg (by omega)]
  simp [Format.write, Format.nearest, Format.word]

def G (x y u v : Nat) : Nat := rnd (x * 2 ^ u * 2 ^ 54) (y * 2 ^ v) ((v : Int) - u - 55)

theorem G_both (x y u v k : Nat) : G x y (u + k) (v + k) = G x y u v := by
  unfold G
  have e : x * 2 ^ (u + k) * 2 ^ 54 = x * 2 ^ u * 2 ^ 54 * 2 ^ k := by rw [Nat.pow_add]; simp only [Nat.mul_assoc, Nat.mul_left_comm, Nat.mul_comm]
  have e2 : y * 2 ^ (v + k) = y * 2 ^ v * 2 ^ k := by rw [Nat.pow_add, Nat.mul_assoc]
  rw [e, e2, rnd_scale _ _ _ _ (Nat.pow_pos (by decide))]
  congr 1
  omega

theorem G_up (x y u v d : Nat) (hy : 0 < y) (hq : 2 ^ 53 ≤ x * 2 ^ u * 2 ^ 54 / (y * 2 ^ v)) : G x y (u + d) v = G x y u v := by
  induction d with
  | zero => rfl
  | succ d ih =>
    rw [← ih]
    unfold G
    have hB : 0 < y * 2 ^ v := Nat.mul_pos hy (Nat.pow_pos (by decide))
    have e : x * 2 ^ (u + (d + 1)) * 2 ^ 54 = x * 2 ^ (u + d) * 2 ^ 54 * 2 := by rw [show u + (d + 1) = (u + d) + 1 by omega, Nat.pow_succ]; simp only [Nat.mul_assoc, Nat.mul_comm, Nat.mul_left_comm]
    rw [e, ← rnd_double _ _ ((v : Int) - ((u + d : Nat) : Int) - 55) hB]
    · congr 1; omega
    · refine Nat.le_trans hq (Nat.div_le_div_right ?_)
      rw [Nat.pow_add]
      exact Nat.mul_le_mul_right _ (Nat.mul_le_mul_left _ (Nat.le_mul_of_pos_right _ (Nat.pow_pos (by decide))))

theorem G_eq {x y : Nat} (hx : 0 < x) (hx2 : x < 2 ^ 53) (hy : 0 < y) (hy2 : y < 2 ^ 53) : double.div (conv x) (conv y) = some (G x y (52 - x.log2) (52 - y.log2)) := by
  rw [quo_eq hx hx2 hy hy2]
  have h1 := log2_lt hx hx2
  have h2 := log2_lt hy hy2
  unfold G norm
  congr 2
  omega

theorem big_quo {a b A B : Nat} (ha : 2 ^ 52 ≤ A) (hb : 0 < B) (hb2 : B < 2 ^ 53) : 2 ^ 53 ≤ A * 2 ^ 54 / B := by
  rw [Nat.le_div_iff_mul_le hb]
  calc 2 ^ 53 * B ≤ 2 ^ 53 * 2 ^ 53 := Nat.mul_le_mul_left _ (by omega)
    _ = 2 ^ 52 * 2 ^ 54 := by decide
    _ ≤ A * 2 ^ 54 := Nat.mul_le_mul_right _ ha

theorem G_meet (n t a1 b1 a2 b2 : Nat) (ht0 : 0 < t) (q1 : 2 ^ 53 ≤ n * 2 ^ a1 * 2 ^ 54 / (t * 2 ^ b1)) (q2 : 2 ^ 53 ≤ n * 2 ^ a2 * 2 ^ 54 / (t * 2 ^ b2)) : G n t a2 b2 = G n t a1 b1 := by
  have scaleq : ∀ u v k, n * 2 ^ (u + k) * 2 ^ 54 / (t * 2 ^ (v + k)) = n * 2 ^ u * 2 ^ 54 / (t * 2 ^ v) := by
    intro u v k
    have e : n * 2 ^ (u + k) * 2 ^ 54 = n * 2 ^ u * 2 ^ 54 * 2 ^ k := by rw [Nat.pow_add]; simp only [Nat.mul_assoc, Nat.mul_left_comm, Nat.mul_comm]
    have e2 : t * 2 ^ (v + k) = t * 2 ^ v * 2 ^ k := by rw [Nat.pow_add, Nat.mul_assoc]
    rw [e, e2, Nat.mul_div_mul_right _ _ (Nat.pow_pos (by decide))]
  rw [← G_both n t a2 b2 b1, ← G_both n t a1 b1 b2, Nat.add_comm b2 b1]
  rcases Nat.le_total (a1 + b2) (a2 + b1) with h | h
  · rw [show a2 + b1 = (a1 + b2) + (a2 + b1 - (a1 + b2)) by omega]
    exact G_up n t _ _ _ ht0 (by rw [scaleq]; exact q1)
  · rw [show a1 + b2 = (a2 + b1) + (a1 + b2 - (a2 + b1)) by omega]
    exact (G_up n t _ _ _ ht0 (by rw [Nat.add_comm b1 b2, scaleq]; exact q2)).symm

theorem noughts {n t c : Nat} (hc : 0 < c) (hn : n * c < 2 ^ 53) (ht0 : 0 < t) (ht : t * c < 2 ^ 53) : double.div (conv (n * c)) (conv (t * c)) = double.div (conv n) (conv t) := by
  have ht1 : t < 2 ^ 53 := Nat.lt_of_le_of_lt (Nat.le_mul_of_pos_right _ hc) ht
  have ht3 : 0 < t * c := Nat.mul_pos ht0 hc
  rcases Nat.eq_zero_or_pos n with h0 | h0
  · subst h0
    rw [Nat.zero_mul, quo_zero ht0 ht1, quo_zero ht3 ht]
  · have hn1 : n < 2 ^ 53 := Nat.lt_of_le_of_lt (Nat.le_mul_of_pos_right _ hc) hn
    have hn3 : 0 < n * c := Nat.mul_pos h0 hc
    rw [G_eq hn3 hn ht3 ht, G_eq h0 hn1 ht0 ht1]
    refine congrArg some ?_
    have base : ∀ u v, G (n * c) (t * c) u v = G n t u v := by
      intro u v
      unfold G
      have e1 : n * c * 2 ^ u * 2 ^ 54 = n * 2 ^ u * 2 ^ 54 * c := by simp only [Nat.mul_assoc, Nat.mul_comm, Nat.mul_left_comm]
      have e2 : t * c * 2 ^ v = t * 2 ^ v * c := by simp only [Nat.mul_assoc, Nat.mul_comm, Nat.mul_left_comm]
      rw [e1, e2, rnd_scale _ _ _ _ hc]
    rw [base]
    have q1 : 2 ^ 53 ≤ n * 2 ^ (52 - n.log2) * 2 ^ 54 / (t * 2 ^ (52 - t.log2)) := big_quo (a := 0) (b := 0) (norm_bounds h0 hn1).1 (by have := (norm_bounds ht0 ht1).1; unfold norm at this; omega) (norm_bounds ht0 ht1).2
    have q2 : 2 ^ 53 ≤ n * 2 ^ (52 - (n * c).log2) * 2 ^ 54 / (t * 2 ^ (52 - (t * c).log2)) := by
      have h := big_quo (a := 0) (b := 0) (norm_bounds hn3 hn).1 (by have := (norm_bounds ht3 ht).1; omega) (norm_bounds ht3 ht).2
      unfold norm at h
      have e1 : n * c * 2 ^ (52 - (n * c).log2) * 2 ^ 54 = n * 2 ^ (52 - (n * c).log2) * 2 ^ 54 * c := by simp only [Nat.mul_assoc, Nat.mul_comm, Nat.mul_left_comm]
      have e2 : t * c * 2 ^ (52 - (t * c).log2) = t * 2 ^ (52 - (t * c).log2) * c := by simp only [Nat.mul_assoc, Nat.mul_comm, Nat.mul_left_comm]
      rw [e1, e2, Nat.mul_div_mul_right _ _ hc] at h
      exact h
    exact G_meet n t _ _ _ _ ht0 q1 q2
end Num9
end Go.Proofs.YtjdmhbfddklhnaaDoor
