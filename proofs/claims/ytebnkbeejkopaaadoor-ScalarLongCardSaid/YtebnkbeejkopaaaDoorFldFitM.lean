/-
  Plain mathematics of the reference's fit: 16 limbs of 16 bits, carried and folded. No conditions.
-/
import Derived.Test.YtebnkbeejkopaaaDoorFldMath
set_option linter.unusedVariables false
namespace F5

abbrev B : Nat := 65536
/-- i limbs are carried; c is carried on. -/
def Pass (A : List Nat) (i : Nat) (L : List Nat) (c : Nat) : Prop :=
  L.length = A.length ∧ (∀ j, j < i → L.getD j 0 < B) ∧ (∀ j, i ≤ j → L.getD j 0 = A.getD j 0) ∧ val B L + B ^ i * c = val B A
theorem Pass.zero (A : List Nat) : Pass A 0 A 0 := ⟨rfl, fun j h => by omega, fun _ _ => rfl, by simp⟩
theorem Pass.next {A L : List Nat} {i c s : Nat} (h : Pass A i L c) (hi : i < A.length) (hs : s = A.getD i 0 + c) : Pass A (i + 1) (L.set i (s % B)) (s / B) := by
  obtain ⟨h1, h2, h3, h4⟩ := h
  refine ⟨by simpa using h1, fun j hj => ?_, fun j hj => by rw [getD_set_ne _ _ (by omega), h3 j (by omega)], ?_⟩
  · by_cases e : i = j
    · subst e; rw [getD_set_eq _ _ (by omega)]; exact Nat.mod_lt _ (by decide)
    · rw [getD_set_ne _ _ e]; exact h2 j (by omega)
  · have e := val_set B L i (s % B) (by omega)
    rw [h3 i (Nat.le_refl _)] at e
    have e2 : s % B + B * (s / B) = s := Nat.mod_add_div _ _
    have e3 := congrArg (B ^ i * ·) (e2.trans hs)
    simp only [Nat.mul_add] at e3
    rw [Nat.pow_succ, Nat.mul_assoc]
    omega
theorem Pass.all {A L : List Nat} {c : Nat} (h : Pass A 16 L c) (hA : A.length = 16) : All B L := by
  intro x hx
  obtain ⟨j, hj, rfl⟩ := List.getElem_of_mem hx
  have := h.2.1 j (by have := h.1; omega)
  rw [List.getD_eq_getElem?_getD, List.getElem?_eq_getElem hj] at this
  exact this

def foldF (v : Nat) : Nat := v % 2 ^ 255 + 19 * (v / 2 ^ 255)
theorem foldF_mod (v : Nat) : foldF v % P = v % P := by
  have h := Nat.div_add_mod v (2 ^ 255)
  have e : v = foldF v + P * (v / 2 ^ 255) := by unfold foldF P; omega
  conv => rhs; rw [e, Nat.add_mul_mod_self_left]
def foldN' : Nat → Nat → Nat
  | 0, v => v
  | t + 1, v => foldF (foldN' t v)
theorem foldN'_mod (t v : Nat) : foldN' t v % P = v % P := by
  induction t with
  | zero => rfl
  | succ t ih => rw [foldN', foldF_mod, ih]
theorem fold3_lt (v : Nat) (h : v < 2 ^ 289) : foldN' 3 v < 2 ^ 255 := by
  show foldF (foldF (foldF v)) < _
  have h1 : foldF v < 2 ^ 255 + 19 * 2 ^ 34 := by unfold foldF; omega
  generalize foldF v = a at *
  have h2 : foldF a < 2 ^ 255 := by unfold foldF; omega
  generalize foldF a = b at *
  unfold foldF
  omega

def Small (A : List Nat) : Prop := ∀ j, A.getD j 0 ≤ 281474976710656
theorem val_lt16 {A : List Nat} (h : A.length = 16) (hs : Small A) : val B A < 2 ^ 289 := by
  match A, h with
  | [a0, a1, a2, a3, a4, a5, a6, a7, a8, a9, a10, a11, a12, a13, a14, a15], _ =>
    have h0 : a0 ≤ 281474976710656 := hs 0
    have h1 : a1 ≤ 281474976710656 := hs 1
    have h2 : a2 ≤ 281474976710656 := hs 2
    have h3 : a3 ≤ 281474976710656 := hs 3
    have h4 : a4 ≤ 281474976710656 := hs 4
    have h5 : a5 ≤ 281474976710656 := hs 5
    have h6 : a6 ≤ 281474976710656 := hs 6
    have h7 : a7 ≤ 281474976710656 := hs 7
    have h8 : a8 ≤ 281474976710656 := hs 8
    have h9 : a9 ≤ 281474976710656 := hs 9
    have h10 : a10 ≤ 281474976710656 := hs 10
    have h11 : a11 ≤ 281474976710656 := hs 11
    have h12 : a12 ≤ 281474976710656 := hs 12
    have h13 : a13 ≤ 281474976710656 := hs 13
    have h14 : a14 ≤ 281474976710656 := hs 14
    have h15 : a15 ≤ 281474976710656 := hs 15
    simp only [val, B]
    omega
theorem top_limb {L : List Nat} (h : L.length = 16) (ha : All B L) : ∃ r, r < 2 ^ 240 ∧ val B L = r + 2 ^ 240 * L.getD 15 0 := by
  have e : L = L.take 15 ++ [L.getD 15 0] := by
    have := List.take_succ_eq_append_getElem (i := 15) (l := L) (by omega)
    rw [List.take_of_length_le (by omega)] at this
    rw [List.getD_eq_getElem?_getD, List.getElem?_eq_getElem (by omega)]
    exact this
  have hl : (L.take 15).length = 15 := by simp; omega
  refine ⟨val B (L.take 15), ?_, ?_⟩
  · have := val_lt (L.take 15) (fun x hx => ha x (List.mem_of_mem_take hx))
    rw [hl] at this
    exact this
  · conv => lhs; rw [e]
    rw [val_append, hl, show B ^ 15 = 2 ^ 240 by decide]
    rfl

/-- a turn's end: what is 2^255 and above is folded. -/
theorem turn_end {A L : List Nat} {c ov : Nat} (hA : A.length = 16) (h : Pass A 16 L c) (hc : c ≤ 8589934592) (ho : ov = 2 * c + L.getD 15 0 / 32768) :
    val B ((L.set 15 (L.getD 15 0 % 32768)).set 0 ((L.set 15 (L.getD 15 0 % 32768)).getD 0 0 + 19 * ov)) = foldF (val B A) ∧ Small ((L.set 15 (L.getD 15 0 % 32768)).set 0 ((L.set 15 (L.getD 15 0 % 32768)).getD 0 0 + 19 * ov)) := by
  have hl : L.length = 16 := h.1.trans hA
  have ha := h.all hA
  obtain ⟨r, hr, hv⟩ := top_limb hl ha
  have h15 := ha.getD (by decide) 15
  have h4 := h.2.2.2
  have e1 := val_set B L 15 (L.getD 15 0 % 32768) (by omega)
  have h0 : (L.set 15 (L.getD 15 0 % 32768)).getD 0 0 = L.getD 0 0 := getD_set_ne _ _ (by omega)
  have h00 := ha.getD (by decide) 0
  have e2 := val_set B (L.set 15 (L.getD 15 0 % 32768)) 0 ((L.set 15 (L.getD 15 0 % 32768)).getD 0 0 + 19 * ov) (by simp; omega)
  constructor
  · generalize val B ((L.set 15 (L.getD 15 0 % 32768)).set 0 ((L.set 15 (L.getD 15 0 % 32768)).getD 0 0 + 19 * ov)) = v2 at *
    generalize val B (L.set 15 (L.getD 15 0 % 32768)) = v1 at *
    generalize (L.set 15 (L.getD 15 0 % 32768)).getD 0 0 = l0 at *
    generalize val B L = v at *
    generalize val B A = V at *
    generalize L.getD 15 0 = t at *
    obtain ⟨q, hq⟩ : ∃ q, q = t / 32768 := ⟨_, rfl⟩
    obtain ⟨s, hs⟩ : ∃ s, s = t % 32768 := ⟨_, rfl⟩
    rw [← hq] at ho
    rw [← hs] at e1
    have ht : t = 32768 * q + s := by rw [hq, hs]; exact (Nat.div_add_mod _ _).symm
    have hsl : s < 32768 := by rw [hs]; exact Nat.mod_lt _ (by decide)
    clear hq hs
    subst ht
    have hv1 : v1 = r + 2 ^ 240 * s := by unfold B at *; omega
    have hv1l : v1 < 2 ^ 255 := by omega
    have hV : V = v1 + 2 ^ 255 * ov := by unfold B at *; omega
    have hd : V / 2 ^ 255 = ov := by rw [hV]; omega
    have hm : V % 2 ^ 255 = v1 := by rw [hV]; omega
    unfold foldF
    rw [hd, hm]
    simp only [Nat.pow_zero, Nat.one_mul] at e2
    omega
  · intro j
    by_cases hj : j = 0
    · subst hj
      rw [getD_set_eq _ _ (by simp; omega), h0]
      unfold B at *
      omega
    · rw [getD_set_ne _ _ (by omega)]
      by_cases hj15 : j = 15
      · subst hj15
        rw [getD_set_eq _ _ (by omega)]
        unfold B at *
        omega
      · rw [getD_set_ne _ _ (by omega)]
        have := ha.getD (by decide) j
        unfold B at this
        omega
theorem pass_digs {A L : List Nat} {c : Nat} (hA : A.length = 16) (h : Pass A 16 L c) (hv : val B A < 2 ^ 256) : L = digs B (val B A) 16 ∧ c = 0 := by
  have h4 := h.2.2.2
  have hc : c = 0 := by unfold B at *; omega
  subst hc
  exact ⟨digs_of (h.all hA) (h.1.trans hA) (by omega), rfl⟩
theorem digs_top {v : Nat} (hv : v < 2 ^ 256) : (digs B v 16).getD 15 0 = v / 2 ^ 240 := by
  rw [digs_getD _ _ _ _ (by omega)]
  show v / 2 ^ 240 % 65536 = _
  exact Nat.mod_eq_of_lt (by omega)
/-- p is taken off, if it is there. -/
theorem take_p {v : Nat} (hv : v < 2 ^ 255) : (32768 ≤ (digs B (v + 19) 16).getD 15 0 → (digs B (v + 19) 16).set 15 ((digs B (v + 19) 16).getD 15 0 - 32768) = digs B (v % P) 16) ∧
    ((digs B (v + 19) 16).getD 15 0 < 32768 → digs B v 16 = digs B (v % P) 16) := by
  have ht := digs_top (show v + 19 < 2 ^ 256 by omega)
  constructor
  · intro h
    have hl := digs_length B (v + 19) 16
    have hlt : (digs B (v + 19) 16).getD 15 0 < B := (digs_all (by decide) _ _ : All B _).getD (by decide) 15
    have e := val_set B (digs B (v + 19) 16) 15 ((digs B (v + 19) 16).getD 15 0 - 32768) (by omega)
    have hvd := val_digs B (v + 19) 16
    rw [Nat.mod_eq_of_lt (show v + 19 < B ^ 16 by unfold B; omega)] at hvd
    refine digs_of ((digs_all (by decide) _ _ : All B _).set (by unfold B at *; omega)) (by simpa using hl) ?_
    have hP : P ≤ v := by unfold P; omega
    rw [Nat.mod_eq_sub_mod hP, Nat.mod_eq_of_lt (by unfold P at *; omega)]
    rw [hvd] at e
    generalize (digs B (v + 19) 16).getD 15 0 = t at *
    generalize val B ((digs B (v + 19) 16).set 15 (t - 32768)) = z at *
    unfold B P at *
    omega
  · intro h
    rw [Nat.mod_eq_of_lt (by unfold P; omega)]
theorem set0_val {v : Nat} (hv : v < 2 ^ 255) : val B ((digs B v 16).set 0 ((digs B v 16).getD 0 0 + 19)) = v + 19 := by
  have e := val_set B (digs B v 16) 0 ((digs B v 16).getD 0 0 + 19) (by rw [digs_length]; omega)
  have hvd := val_digs B v 16
  rw [Nat.mod_eq_of_lt (show v < B ^ 16 by unfold B; omega)] at hvd
  rw [hvd] at e
  simp only [Nat.pow_zero, Nat.one_mul] at e
  omega
end F5
