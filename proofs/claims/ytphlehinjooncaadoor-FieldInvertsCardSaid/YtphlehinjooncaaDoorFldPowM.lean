/-
  Plain mathematics of inverses and roots modulo 2^255 - 19. No conditions.
-/
import Derived.Test.YtphlehinjooncaaDoorFldPrime
set_option linter.unusedVariables false
namespace F5

theorem P_pos : 0 < P := by decide
/-- a number to a power, modulo P. -/
def pw (n e : Nat) : Nat := n ^ e % P
theorem pw_lt (n e : Nat) : pw n e < P := Nat.mod_lt _ P_pos
theorem pw_one {n : Nat} (h : n < P) : pw n 1 = n := by rw [pw, Nat.pow_one, Nat.mod_eq_of_lt h]
theorem pw_zero (n : Nat) : pw n 0 = 1 := by rw [pw, Nat.pow_zero]; exact Nat.mod_eq_of_lt (by decide)
theorem pw_add (n a b : Nat) : pw n a * pw n b % P = pw n (a + b) := by rw [pw, pw, pw, ← Nat.mul_mod, ← Nat.pow_add]
theorem pw_next {n : Nat} (h : n < P) (a : Nat) : pw n a * n % P = pw n (a + 1) := by
  have e := pw_add n a 1
  rwa [pw_one h] at e
theorem pw_pw (n a b : Nat) : pw (pw n a) b = pw n (a * b) := by rw [pw, pw, pw, pow_mod', Nat.pow_mul]
theorem pw_mod (n a : Nat) : pw (n % P) a = pw n a := by rw [pw, pw, pow_mod']

theorem sub_self {n : Nat} (h : n < P) : (n + P - n) % P = 0 := by rw [Nat.add_sub_cancel_left, Nat.mod_self]
theorem nd_of_pos {n : Nat} (h0 : n ≠ 0) (h : n < P) : ¬ P ∣ n := fun hd => by
  have := Nat.le_of_dvd (by omega) hd
  omega
/-- a number times its inverse. -/
theorem inv_mul {n : Nat} (h0 : n ≠ 0) (h : n < P) : n * pw n (P - 2) % P = 1 := by
  rw [Nat.mul_comm, pw_next h, show P - 2 + 1 = P - 1 from rfl, pw]
  exact fermat prime_P (nd_of_pos h0 h)

/-- turn times itself is p - 1. -/
def I4 : Nat := 19681161376707505956807079304988542015446066515923890162744021073123829784752
theorem I4_lt : I4 < P := by decide
theorem I4_sq : I4 * I4 % P = P - 1 := by decide
theorem I4_pow : pw 2 ((P - 1) / 4) = I4 := by
  have h := powMod_eq P 255 2 ((P - 1) / 4) 1 (by decide) (by decide)
  rw [Nat.one_mul] at h
  rw [pw, ← h]
  decide +kernel

/-- E is (p + 3) / 8. -/
def E8 : Nat := 2 ^ 252 - 2
theorem E8_twice : E8 + E8 = (P - 1) / 4 + 1 := by decide +kernel
def root1 (n : Nat) : Nat := if pw n E8 * pw n E8 % P = n then pw n E8 else pw n E8 * I4 % P
theorem root1_lt (n : Nat) : root1 n < P := by
  unfold root1
  split
  · exact pw_lt _ _
  · exact Nat.mod_lt _ P_pos
def hasRoot (n : Nat) : Prop := root1 n * root1 n % P = n
instance (n : Nat) : Decidable (hasRoot n) := inferInstanceAs (Decidable (_ = _))
/-- the even one of the two roots; 0, if there is none. -/
def root (n : Nat) : Nat := if hasRoot n then (if root1 n % 2 = 1 then P - root1 n else root1 n) else 0
theorem root_lt (n : Nat) : root n < P := by
  have h := root1_lt n
  unfold root
  split
  · split
    · have : root1 n ≠ 0 := by intro e; rename_i hodd; rw [e] at hodd; omega
      have := P_pos
      omega
    · exact h
  · exact P_pos
theorem root_even (n : Nat) : root n % 2 = 0 := by
  have h := root1_lt n
  unfold root
  split
  · split
    · unfold P at *; omega
    · omega
  · rfl
theorem neg_sq {a : Nat} (h : a ≤ P) : (P - a) * (P - a) % P = a * a % P := by
  have h2 : a * a ≤ P * a := Nat.mul_le_mul_right a h
  have e : (P - a) * (P - a) + P * (2 * a) = a * a + P * P := by
    have e1 : P = (P - a) + a := by omega
    generalize P - a = z at e1
    rw [e1]
    simp only [Nat.mul_add, Nat.add_mul, Nat.two_mul, Nat.mul_comm a z]
    omega
  have := congrArg (· % P) e
  simp only [Nat.add_mul_mod_self_left] at this
  exact this
theorem root_sq {n : Nat} (h : hasRoot n) : root n * root n % P = n := by
  unfold root
  rw [if_pos h]
  split
  · rw [neg_sq (Nat.le_of_lt (root1_lt n))]; exact h
  · exact h

/-- two numbers with one square are the same, or each other's other side. -/
theorem sq_inj {a b : Nat} (ha : a < P) (hb : b < P) (h : a * a % P = b * b % P) : a = b ∨ (a + b) % P = 0 := by
  have key : ∀ a b, a ≤ b → b < P → a * a % P = b * b % P → a = b ∨ (a + b) % P = 0 := by
    intro a b hab hb h
    rw [mod_eq_sub (Nat.mul_le_mul hab hab)] at h
    have e : b * b - a * a = (b - a) * (a + b) := by
      have e1 : b = (b - a) + a := by omega
      generalize b - a = z at e1
      subst e1
      have : (z + a) * (z + a) = z * (a + (z + a)) + a * a := by
        simp only [Nat.mul_add, Nat.add_mul, Nat.mul_comm a z]; omega
      omega
    rw [e] at h
    rcases prime_P.dvd_mul h with h1 | h1
    · left
      apply Classical.byContradiction
      intro hne
      have := Nat.le_of_dvd (by omega) h1
      omega
    · right; exact Nat.mod_eq_zero_of_dvd h1
  rcases Nat.le_total a b with hab | hab
  · exact key a b hab hb h
  · rcases key b a hab ha h.symm with h1 | h1
    · exact .inl h1.symm
    · right; rw [Nat.add_comm]; exact h1

theorem pw_of_zero (e : Nat) (h : e ≠ 0) : pw 0 e = 0 := by
  cases e with
  | zero => exact absurd rfl h
  | succ k => unfold pw; rw [Nat.pow_succ, Nat.mul_zero, Nat.zero_mod]
theorem root1_zero : root1 0 = 0 := by
  have h := pw_of_zero E8 (by decide)
  unfold root1
  rw [h]
  simp
theorem root_of_sq {x : Nat} (hx : x < P) : hasRoot (x * x % P) ∧ (root (x * x % P) = x ∨ (root (x * x % P) + x) % P = 0) := by
  have hs : x * x % P < P := Nat.mod_lt _ P_pos
  have hs2 : x * x % P = pw x 2 := by rw [pw, Nat.pow_two]
  have hh : hasRoot (x * x % P) := by
    by_cases h0 : x = 0
    · subst h0
      rw [show 0 * 0 % P = 0 from Nat.zero_mod P]
      unfold hasRoot
      rw [root1_zero, Nat.zero_mul, Nat.zero_mod]
    · -- r is s to the power of E8; its square is s times x to the power of (p - 1) / 2
      have hr : pw (x * x % P) E8 * pw (x * x % P) E8 % P = (x * x % P) * pw x ((P - 1) / 2) % P := by
        rw [pw_add, E8_twice, ← pw_next hs, hs2, pw_pw, Nat.mul_comm, show 2 * ((P - 1) / 4) = (P - 1) / 2 by decide +kernel]
      have hq : pw x ((P - 1) / 2) * pw x ((P - 1) / 2) % P = 1 * 1 % P := by
        rw [pw_add, show (P - 1) / 2 + (P - 1) / 2 = P - 1 by decide +kernel, pw, fermat prime_P (nd_of_pos h0 hx)]
        decide
      rcases sq_inj (pw_lt _ _) (show 1 < P by decide) hq with h1 | h1
      · rw [h1, Nat.mul_one, Nat.mod_mod] at hr
        unfold hasRoot root1
        rw [if_pos hr, hr]
      · have h2 : pw x ((P - 1) / 2) = P - 1 := by
          have := pw_lt x ((P - 1) / 2)
          generalize pw x ((P - 1) / 2) = z at *
          have hz : z + 1 = P := by
            apply Classical.byContradiction
            intro hne
            rw [Nat.mod_eq_of_lt (by omega)] at h1
            omega
          omega
        by_cases h3 : pw (x * x % P) E8 * pw (x * x % P) E8 % P = x * x % P
        · unfold hasRoot root1
          rw [if_pos h3, h3]
        · unfold hasRoot root1
          rw [if_neg h3]
          rw [h2] at hr
          generalize pw (x * x % P) E8 = r at *
          generalize x * x % P = s at *
          rw [← Nat.mul_mod, show r * I4 * (r * I4) = (r * r) * (I4 * I4) by simp only [Nat.mul_assoc, Nat.mul_left_comm], Nat.mul_mod, hr, I4_sq]
          have : (s * (P - 1) % P) * (P - 1) % P = s * ((P - 1) * (P - 1)) % P := by rw [Nat.mod_mul_mod, Nat.mul_assoc]
          rw [this, Nat.mul_mod, show (P - 1) * (P - 1) % P = 1 by decide, Nat.mul_one, Nat.mod_mod, Nat.mod_eq_of_lt hs]
  refine ⟨hh, sq_inj (root_lt _) hx (root_sq hh)⟩
end F5
