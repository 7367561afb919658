/-
  Plain mathematics of float64 as words: how two words stand to each other, by a whole number that each one has. No conditions.
-/
import Derived.Laws.FloatArith
set_option linter.unusedSimpArgs false
set_option linter.unusedVariables false
namespace Go.Proofs.YtjdmhbfddklhnaaDoor
open Go

namespace Num9
open Ieee

theorem signed_add (s : Bool) (m a b : Nat) : signed s m (a + b) = signed s m a * 2 ^ b := by
  unfold signed
  cases s <;> simp [Nat.shiftLeft_eq, Nat.pow_add, Int.neg_mul, Int.mul_assoc]

theorem signed_abs (s : Bool) (m a : Nat) : (signed s m a).natAbs = m * 2 ^ a := by
  unfold signed
  cases s <;> simp [Nat.shiftLeft_eq, Int.natAbs_mul, Int.natAbs_pow]

theorem compare_mul (a b c : Int) (hc : 0 < c) : compare (a * c) (b * c) = compare a b := by
  have h1 : a * c < b * c ↔ a < b := Int.mul_lt_mul_right hc
  have h2 : a * c = b * c ↔ a = b := ⟨fun h => Int.eq_of_mul_eq_mul_right (by omega) h, fun h => by rw [h]⟩
  show compareOfLessAndEq (a * c) (b * c) = compareOfLessAndEq a b
  unfold compareOfLessAndEq
  simp only [h1, h2]

/-- More than any number of the format, in units of the least place. -/
def top : Nat := 2046
def big : Nat := 2 ^ 53 * 2 ^ top
theorem big_ge {a : Nat} (h : a ≤ 2046) : 2 ^ 53 * 2 ^ a ≤ big := Nat.mul_le_mul_left _ (Nat.pow_le_pow_right (by decide) h)
theorem big_pos : 0 < big := Nat.mul_pos (by decide) (Nat.pow_pos (by decide))

/-- The whole number by which a word stands. -/
def key (x : Nat) : Option Int :=
  match double.read x with
  | .nan .. => none
  | .infinity s => some (if s then -(big : Int) else (big : Int))
  | .number s m p => some (signed s m (p - double.leastPlace).toNat)

theorem read_number {x : Nat} {s : Bool} {m : Nat} {p : Int} (h : double.read x = .number s m p) : m < 2 ^ 53 ∧ double.leastPlace ≤ p ∧ p ≤ double.leastPlace + 2046 := by
  unfold Format.read at h
  simp only at h
  have e1 : double.binade = 2 ^ 52 := rfl
  have e2 : double.infRung = 2047 * 2 ^ 52 := rfl
  split at h
  · injection h with _ h2 h3
    subst h2 h3
    exact ⟨by omega, by omega, by omega⟩
  · split at h
    · injection h with _ h2 h3
      have hb : x % double.signWeight % double.binade < double.binade := Nat.mod_lt _ (by rw [e1]; decide)
      refine ⟨by omega, by omega, ?_⟩
      have hd : x % double.signWeight / double.binade < 2047 := Nat.div_lt_of_lt_mul (by rw [e1]; omega)
      omega
    · split at h <;> cases h

theorem key_small {s : Bool} {m : Nat} {p : Int} (hm : m < 2 ^ 53) (h1 : double.leastPlace ≤ p) (h2 : p ≤ double.leastPlace + 2046) : (signed s m (p - double.leastPlace).toNat).natAbs < big := by
  rw [signed_abs]
  have h3 : (p - double.leastPlace).toNat ≤ 2046 := by omega
  calc m * 2 ^ (p - double.leastPlace).toNat < 2 ^ 53 * 2 ^ (p - double.leastPlace).toNat := Nat.mul_lt_mul_of_pos_right hm (Nat.pow_pos (by decide))
    _ ≤ big := big_ge h3

theorem order_key (x y : Nat) : double.order x y = match key x, key y with
    | some a, some b => some (compare a b)
    | _, _ => none := by
  unfold Format.order key
  obtain ⟨B, hBN⟩ : ∃ B : Int, (big : Int) = B := ⟨_, rfl⟩
  rw [hBN]
  have lt_c : ∀ {a b : Int}, a < b → compare a b = .lt := fun {a b} h => by
    show compareOfLessAndEq a b = _
    unfold compareOfLessAndEq; rw [if_pos h]
  have gt_c : ∀ {a b : Int}, b < a → compare a b = .gt := fun {a b} h => by
    show compareOfLessAndEq a b = _
    unfold compareOfLessAndEq; rw [if_neg (by omega), if_neg (by omega)]
  have eq_c : ∀ {a : Int}, compare a a = .eq := fun {a} => by
    show compareOfLessAndEq a a = _
    unfold compareOfLessAndEq; rw [if_neg (by omega), if_pos rfl]
  have hB0 : 0 < B := by rw [← hBN]; exact Int.natCast_pos.2 big_pos
  generalize hx : double.read x = dx
  generalize hy : double.read y = dy
  cases dx with
  | nan s t => cases dy <;> rfl
  | infinity s =>
    cases dy with
    | nan t u => rfl
    | infinity t =>
      simp only [Datum.order, Option.some.injEq]
      cases s <;> cases t
      · exact (eq_c (a := B)).symm
      · exact (gt_c (show -B < B by omega)).symm
      · exact (lt_c (show -B < B by omega)).symm
      · exact (eq_c (a := -B)).symm
    | number t n j =>
      obtain ⟨h1, h2, h3⟩ := read_number hy
      have hk := key_small (s := t) h1 h2 h3
      simp only [Datum.order, Option.some.injEq]
      generalize signed t n (j - double.leastPlace).toNat = v at hk ⊢
      have hv : (v.natAbs : Int) < B := by rw [← hBN]; exact_mod_cast hk
      cases s
      · exact (gt_c (show v < B by omega)).symm
      · exact (lt_c (show -B < v by omega)).symm
  | number s m i =>
    obtain ⟨g1, g2, g3⟩ := read_number hx
    cases dy with
    | nan t u => rfl
    | infinity t =>
      have hk := key_small (s := s) g1 g2 g3
      simp only [Datum.order, Option.some.injEq]
      generalize signed s m (i - double.leastPlace).toNat = v at hk ⊢
      have hv : (v.natAbs : Int) < B := by rw [← hBN]; exact_mod_cast hk
      cases t
      · exact (lt_c (show v < B by omega)).symm
      · exact (gt_c (show -B < v by omega)).symm
    | number t n j =>
      obtain ⟨h1, h2, h3⟩ := read_number hy
      simp only [Datum.order, Option.some.injEq]
      have e1 : (i - double.leastPlace).toNat = (i - min i j).toNat + (min i j - double.leastPlace).toNat := by omega
      have e2 : (j - double.leastPlace).toNat = (j - min i j).toNat + (min i j - double.leastPlace).toNat := by omega
      rw [e1, e2, signed_add, signed_add, compare_mul]
      exact_mod_cast Nat.pow_pos (by decide)

theorem order_swap (x y : Nat) : double.order y x = (double.order x y).map Ordering.swap := by
  rw [order_key, order_key]
  cases key x <;> cases key y <;> try rfl
  rename_i a b
  simp only [Option.map_some, Option.some.injEq]
  show compareOfLessAndEq b a = (compareOfLessAndEq a b).swap
  unfold compareOfLessAndEq
  by_cases h1 : a < b
  · rw [if_pos h1, if_neg (by omega), if_neg (by omega)]; rfl
  · by_cases h2 : a = b
    · subst h2; simp
    · rw [if_neg h1, if_neg h2, if_pos (by omega)]; rfl

theorem order_self (x : Nat) : double.order x x = if (key x).isSome then some .eq else none := by
  rw [order_key]
  cases key x
  · rfl
  · show some (compareOfLessAndEq _ _) = _
    unfold compareOfLessAndEq
    simp
end Num9
end Go.Proofs.YtjdmhbfddklhnaaDoor
