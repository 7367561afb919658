/-
  Plain mathematics of the reference's limbs: of a number, of bytes, sums and products. No conditions.
-/
import Derived.Test.YtphlehinjooncaaDoorFldFitM
set_option linter.unusedVariables false
namespace F5

/-- a list, its first k entries told. -/
def partN (l : List Nat) (k : Nat) : List Nat := l.take k ++ List.replicate (l.length - k) 0
theorem partN_length {l : List Nat} {k : Nat} (hk : k ≤ l.length) : (partN l k).length = l.length := by simp [partN]; omega
theorem partN_zero (l : List Nat) : partN l 0 = List.replicate l.length 0 := by simp [partN]
theorem partN_all (l : List Nat) : partN l l.length = l := by simp [partN]
theorem partN_set {l : List Nat} {k : Nat} (hk : k < l.length) : (partN l k).set k (l.getD k 0) = partN l (k + 1) := by
  unfold partN
  have e1 : (l.take k).length = k := by simp; omega
  rw [List.set_append_right _ _ (by omega), e1, Nat.sub_self, show l.length - k = (l.length - (k + 1)) + 1 by omega, List.replicate_succ, List.set_cons_zero]
  rw [List.take_succ_eq_append_getElem hk, List.getD_eq_getElem?_getD, List.getElem?_eq_getElem hk, List.append_assoc]
  rfl
theorem partN_at {l : List Nat} {k : Nat} (j : Nat) (hj : k ≤ j) : (partN l k).getD j 0 = 0 := by
  rw [List.getD_eq_getElem?_getD, partN, List.getElem?_append_right (by simp; omega), List.getElem?_replicate]
  split <;> rfl
/-- of a number of 64 bits four limbs are told. -/
theorem part4 {n : Nat} (h : n < M) : partN (digs B n 16) 4 = digs B n 16 := by
  have e : digs B n 16 = (digs B n 16).take 4 ++ (digs B n 16).drop 4 := (List.take_append_drop 4 _).symm
  have hz : (digs B n 16).drop 4 = List.replicate 12 0 := by
    apply List.ext_getElem?
    intro i
    rw [List.getElem?_drop, List.getElem?_replicate]
    by_cases hi : i < 12
    · have hg := digs_getD B n 16 (4 + i) (by omega)
      rw [List.getD_eq_getElem?_getD, List.getElem?_eq_getElem (by rw [digs_length]; omega)] at hg
      rw [if_pos hi, List.getElem?_eq_getElem (by rw [digs_length]; omega)]
      simp only [Option.getD_some] at hg
      rw [hg, Nat.div_eq_of_lt, Nat.zero_mod]
      exact Nat.lt_of_lt_of_le (show n < B ^ 4 from h) (Nat.pow_le_pow_right (show B > 0 by decide) (by omega : 4 ≤ 4 + i))
    · rw [if_neg hi, List.getElem?_eq_none (by rw [digs_length]; omega)]
  unfold partN
  rw [digs_length, show 16 - 4 = 12 from rfl, ← hz, ← e]
theorem limb_bytes (v i : Nat) : v / B ^ i % B = v / 256 ^ (2 * i) % 256 + 256 * (v / 256 ^ (2 * i + 1) % 256) := by
  have e : B ^ i = 256 ^ (2 * i) := by rw [Nat.pow_mul]
  rw [e, Nat.pow_succ, ← Nat.div_div_eq_div_mul]
  generalize v / 256 ^ (2 * i) = x
  unfold B
  omega
end F5
