/-
  Plain mathematics of the reference's sum, difference and product, limb by limb. No conditions.
-/
import Derived.Test.YtebnkbeejkopaaaDoorFldFitM
set_option linter.unusedVariables false
namespace F5

theorem mod_next (x k : Nat) : x % B ^ (k + 1) = x % B ^ k + B ^ k * (x / B ^ k % B) := by
  rw [Nat.pow_succ, Nat.mod_mul]
theorem lim_lt (x k : Nat) : x / B ^ k % B < B := Nat.mod_lt _ (by decide)
theorem mod_full {x : Nat} (h : x < 2 ^ 256) : x % B ^ 16 = x := Nat.mod_eq_of_lt (show x < B ^ 16 from h)
theorem digs_at {x k : Nat} (h : k < 16) : (digs B x 16).getD k 0 = x / B ^ k % B := digs_getD _ _ _ _ h
theorem val16 {x : Nat} (h : x < 2 ^ 256) : val B (digs B x 16) = x := by rw [val_digs, mod_full h]

/-- The sum, its first k limbs done. -/
def AddL (x y k : Nat) (L : List Nat) : Prop :=
  L.length = 16 ∧ (∀ j, L.getD j 0 ≤ 131070) ∧ (∀ j, k ≤ j → j < 16 → L.getD j 0 = x / B ^ j % B) ∧ val B L = x + y % B ^ k
theorem AddL.zero {x y : Nat} (hx : x < 2 ^ 256) : AddL x y 0 (digs B x 16) :=
  ⟨digs_length _ _ _, fun j => by have := (digs_all (show 0 < B by decide) x 16).getD (by decide) j; unfold B at *; omega, fun j _ h => digs_at h, by rw [val16 hx]; simp [Nat.mod_one]⟩
theorem AddL.next {x y k : Nat} {L : List Nat} (h : AddL x y k L) (hk : k < 16) : AddL x y (k + 1) (L.set k (L.getD k 0 + y / B ^ k % B)) := by
  obtain ⟨h1, h2, h3, h4⟩ := h
  have ha := h3 k (Nat.le_refl _) hk
  have hxl := lim_lt x k
  have hyl := lim_lt y k
  refine ⟨by simpa using h1, fun j => ?_, fun j hj hj2 => by rw [getD_set_ne _ _ (by omega), h3 j (by omega) hj2], ?_⟩
  · by_cases e : k = j
    · subst e
      rw [getD_set_eq _ _ (by omega)]
      unfold B at *; omega
    · rw [getD_set_ne _ _ e]; exact h2 j
  · have hs := val_set B L k (L.getD k 0 + y / B ^ k % B) (by omega)
    rw [mod_next]
    rw [Nat.mul_add] at hs
    omega
theorem AddL.done {x y : Nat} {L : List Nat} (h : AddL x y 16 L) (hy : y < 2 ^ 256) : L.length = 16 ∧ Small L ∧ val B L = x + y := by
  obtain ⟨h1, h2, _, h4⟩ := h
  rw [mod_full hy] at h4
  exact ⟨h1, fun j => Nat.le_trans (h2 j) (by decide), h4⟩

/-- p less a number, its first k limbs done; b is borrowed. -/
def NegL (x k b : Nat) (L : List Nat) : Prop :=
  L.length = 16 ∧ All B L ∧ (∀ j, k ≤ j → j < 16 → L.getD j 0 = x / B ^ j % B) ∧ b ≤ 1 ∧ val B L + 2 * (x % B ^ k) = P % B ^ k + B ^ k * b + x
theorem NegL.zero {x : Nat} (hx : x < 2 ^ 256) : NegL x 0 0 (digs B x 16) :=
  ⟨digs_length _ _ _, digs_all (by decide) _ _, fun j _ h => digs_at h, by omega, by rw [val16 hx]; simp [Nat.mod_one]⟩
theorem NegL.next {x k b n : Nat} {L : List Nat} (h : NegL x k b L) (hk : k < 16) (hn : n + L.getD k 0 + b = P / B ^ k % B + 65536) : NegL x (k + 1) (1 - n / 65536) (L.set k (n % 65536)) := by
  obtain ⟨h1, h2, h3, h5, h4⟩ := h
  have ha := h3 k (Nat.le_refl _) hk
  have hxl := lim_lt x k
  have hpl := lim_lt P k
  have hr : n % 65536 < B := Nat.mod_lt _ (by decide)
  refine ⟨by simpa using h1, h2.set hr, fun j hj hj2 => by rw [getD_set_ne _ _ (by omega), h3 j (by omega) hj2], by omega, ?_⟩
  have hs := val_set B L k (n % 65536) (by omega)
  have he : n % 65536 + x / B ^ k % B + b = P / B ^ k % B + 65536 * (1 - n / 65536) := by
    rw [← ha]
    unfold B at *; omega
  rw [mod_next x, mod_next P, Nat.pow_succ, Nat.mul_assoc]
  rw [ha] at hs
  have e := congrArg (B ^ k * ·) he
  simp only [Nat.mul_add] at e
  have e2 : B * (1 - n / 65536) = 65536 * (1 - n / 65536) := rfl
  rw [e2]
  omega
theorem NegL.done {x b : Nat} {L : List Nat} (h : NegL x 16 b L) (hx : x < P) : L.length = 16 ∧ Small L ∧ val B L = P - x := by
  obtain ⟨h1, h2, _, h5, h4⟩ := h
  have hxx : x < 2 ^ 256 := Nat.lt_trans hx (by decide)
  rw [mod_full hxx, mod_full (show P < 2 ^ 256 by decide)] at h4
  have hl := val_lt L h2
  rw [h1] at hl
  refine ⟨h1, fun j => Nat.le_trans (Nat.le_of_lt (h2.getD (by decide) j)) (by decide), ?_⟩
  have hb : b = 0 := by unfold B at *; omega
  subst hb
  omega

/-- The product: the first i limbs of x are done, and of the next one the first k of y. -/
def MulL (x y i k : Nat) (L : List Nat) : Prop :=
  L.length = 32 ∧ (∀ j, L.getD j 0 ≤ (16 * i + k) * 4294836225) ∧ val B L = x % B ^ i * y + B ^ i * ((x / B ^ i % B) * (y % B ^ k))
theorem val_zeros (b n : Nat) : val b (List.replicate n 0) = 0 := by
  induction n with
  | zero => rfl
  | succ n ih => rw [List.replicate_succ, val, ih]; simp
theorem MulL.zero {x y : Nat} : MulL x y 0 0 (List.replicate 32 0) := by
  refine ⟨List.length_replicate, fun j => ?_, ?_⟩
  · rw [List.getD_eq_getElem?_getD, List.getElem?_replicate]; split <;> exact Nat.zero_le _
  · have e : x % B ^ 0 = 0 := by rw [Nat.pow_zero, Nat.mod_one]
    have e2 : y % B ^ 0 = 0 := by rw [Nat.pow_zero, Nat.mod_one]
    rw [val_zeros, e, e2, Nat.mul_zero, Nat.mul_zero, Nat.zero_mul]
theorem MulL.next {x y i k : Nat} {L : List Nat} (h : MulL x y i k L) (hi : i < 16) (hk : k < 16) : MulL x y i (k + 1) (L.set (i + k) (L.getD (i + k) 0 + (x / B ^ i % B) * (y / B ^ k % B))) := by
  obtain ⟨h1, h2, h4⟩ := h
  have hxl := lim_lt x i
  have hyl := lim_lt y k
  have hp : (x / B ^ i % B) * (y / B ^ k % B) ≤ 65535 * 65535 := Nat.mul_le_mul (by unfold B at *; omega) (by unfold B at *; omega)
  refine ⟨by simpa using h1, fun j => ?_, ?_⟩
  · have h2j := h2 j
    by_cases e : i + k = j
    · subst e
      rw [getD_set_eq _ _ (by omega)]
      omega
    · rw [getD_set_ne _ _ e]; exact Nat.le_trans h2j (Nat.mul_le_mul_right _ (Nat.le_succ _))
  · have hs := val_set B L (i + k) (L.getD (i + k) 0 + (x / B ^ i % B) * (y / B ^ k % B)) (by omega)
    rw [mod_next y, Nat.mul_add, Nat.mul_add]
    rw [Nat.mul_add] at hs
    have e : B ^ i * (x / B ^ i % B * (B ^ k * (y / B ^ k % B))) = B ^ (i + k) * (x / B ^ i % B * (y / B ^ k % B)) := by
      rw [Nat.pow_add]; simp only [Nat.mul_assoc, Nat.mul_left_comm]
    rw [e]
    omega
theorem MulL.row {x y i : Nat} {L : List Nat} (h : MulL x y i 16 L) (hy : y < 2 ^ 256) : MulL x y (i + 1) 0 L := by
  obtain ⟨h1, h2, h4⟩ := h
  refine ⟨h1, fun j => by have := h2 j; omega, ?_⟩
  rw [h4, mod_full hy, mod_next x, Nat.add_mul, Nat.pow_zero, Nat.mod_one, Nat.mul_zero, Nat.mul_zero, Nat.add_zero, Nat.mul_assoc]

theorem val_add_list (L1 L2 : List Nat) (c : Nat) (h : L1.length = L2.length) : val B (List.zipWith (fun a b => a + c * b) L1 L2) = val B L1 + c * val B L2 := by
  induction L1 generalizing L2 with
  | nil => cases L2 with
    | nil => simp [val]
    | cons a t => simp at h
  | cons a t ih =>
    cases L2 with
    | nil => simp at h
    | cons b t2 =>
      have := ih t2 (by simpa using h)
      show (a + c * b) + B * val B (List.zipWith _ t t2) = a + B * val B t + c * (b + B * val B t2)
      rw [this, Nat.mul_add, Nat.mul_add, Nat.mul_left_comm B c]
      omega
/-- what stands from 2^256 on counts 38 times. -/
def foldL (L : List Nat) : List Nat := List.zipWith (fun a b => a + 38 * b) (L.take 16) (L.drop 16)
theorem foldL_length {L : List Nat} (h : L.length = 32) : (foldL L).length = 16 := by simp [foldL, h]
theorem foldL_at {L : List Nat} (h : L.length = 32) {i : Nat} (hi : i < 16) : (foldL L).getD i 0 = L.getD i 0 + 38 * L.getD (i + 16) 0 := by
  unfold foldL
  rw [List.getD_eq_getElem?_getD, List.getElem?_zipWith, List.getElem?_take_of_lt hi, List.getElem?_drop, Nat.add_comm 16 i]
  rw [List.getD_eq_getElem?_getD, List.getD_eq_getElem?_getD, List.getElem?_eq_getElem (by omega), List.getElem?_eq_getElem (by omega)]
  rfl
theorem MulL.done {x y : Nat} {L : List Nat} (h : MulL x y 16 0 L) (hx : x < 2 ^ 256) : L.length = 32 ∧ Small (foldL L) ∧ val B (foldL L) % P = x * y % P := by
  obtain ⟨h1, h2, h4⟩ := h
  refine ⟨h1, fun j => ?_, ?_⟩
  · by_cases hj : j < 16
    · rw [foldL_at h1 hj]
      have a := h2 j
      have b := h2 (j + 16)
      omega
    · rw [List.getD_eq_getElem?_getD, List.getElem?_eq_none (by rw [foldL_length h1]; omega)]
      simp
  · rw [mod_full hx, Nat.pow_zero, Nat.mod_one, Nat.mul_zero, Nat.mul_zero, Nat.add_zero] at h4
    have e : val B L = val B (L.take 16) + B ^ 16 * val B (L.drop 16) := by
      conv => lhs; rw [← List.take_append_drop 16 L, val_append, List.length_take, h1]
      rfl
    rw [foldL, val_add_list _ _ _ (by simp [h1]), ← h4, e]
    have hB : B ^ 16 = 38 + P * 2 := by decide
    rw [hB, Nat.add_mul, Nat.mul_assoc, ← Nat.add_assoc, Nat.add_mul_mod_self_left]
end F5
