/-
  Plain mathematics on decimal digits: the length that stands at the head of bytes. No conditions.
-/
import Derived.Lib.ItoaNum
namespace Oct
open Go

def isDig (c : UInt8) : Bool := decide (48 ≤ c.toNat ∧ c.toNat ≤ 57)
/-- The digits from here on, behind the number n: nothing, if it goes above most; else the number, and how many digits. -/
def digs (most : Nat) : List UInt8 → Nat → Option (Nat × Nat)
  | [], n => some (n, 0)
  | c :: r, n => if isDig c then (if 10 * n + (c.toNat - 48) > most then none else (digs most r (10 * n + (c.toNat - 48))).map fun p => (p.1, p.2 + 1)) else some (n, 0)
/-- The length that stands at a place, at the most so much: the number, the place behind it, the error's number. -/
def getLen (l : List UInt8) (at_ most : Int) : Int × Int × Int :=
  if at_ < 0 then (0, at_, 1)
  else match l.drop at_.toNat with
    | [] => (0, at_, 2)
    | c :: r => if isDig c = false then (0, at_, 3) else if c = 48 then (0, at_ + 1, 0) else
      match digs (max most 0).toNat (c :: r) 0 with
      | none => (0, at_, 4)
      | some (n, k) => (n, at_ + k, 0)

theorem digs_over (most : Nat) : ∀ (l : List UInt8) (n : Nat) (p : Nat × Nat), digs most l n = some p → n ≤ most → p.1 ≤ most := by
  intro l
  induction l with
  | nil => intro n p h hn; simp [digs] at h; subst h; exact hn
  | cons c r ih =>
    intro n p h hn
    rw [digs] at h
    split at h
    · split at h
      · cases h
      · rename_i hle
        cases hd : digs most r (10 * n + (c.toNat - 48)) with
        | none => rw [hd] at h; cases h
        | some q =>
          rw [hd] at h
          simp at h
          subst h
          show q.1 ≤ most
          exact ih _ q hd (by omega)
    · simp at h; subst h; exact hn

/-! The digits of a number, read. -/
def val (p : List UInt8) (a : Nat) : Nat := p.foldl (fun v c => 10 * v + (c.toNat - 48)) a
theorem val_mono : ∀ (p : List UInt8) (a b : Nat), a ≤ b → val p a ≤ val p b
  | [], _, _, h => h
  | c :: r, a, b, h => val_mono r (10 * a + (c.toNat - 48)) (10 * b + (c.toNat - 48)) (by omega)
theorem val_ge : ∀ (p : List UInt8) (a : Nat), a ≤ val p a
  | [], _ => Nat.le_refl _
  | c :: r, a => Nat.le_trans (show a ≤ 10 * a + (c.toNat - 48) by omega) (val_ge r (10 * a + (c.toNat - 48)))
theorem digs_run (M : Nat) : ∀ (p r : List UInt8) (a : Nat), (∀ c ∈ p, isDig c = true) → val p a ≤ M → digs M (p ++ r) a = (digs M r (val p a)).map fun q => (q.1, q.2 + p.length)
  | [], r, a, _, _ => by simp [val]
  | c :: p, r, a, h, hv => by
    have h1 := val_ge p (10 * a + (c.toNat - 48))
    have hv' : val p (10 * a + (c.toNat - 48)) ≤ M := hv
    rw [List.cons_append, digs, if_pos (h c (by simp)), if_neg (by omega), digs_run M p r _ (fun c' hc' => h c' (by simp [hc'])) hv', Option.map_map]
    show Option.map _ (digs M r (val p (10 * a + (c.toNat - 48)))) = _
    refine congrFun (congrArg Option.map (funext fun q => ?_)) _
    show (q.1, q.2 + p.length + 1) = (q.1, q.2 + (p.length + 1))
    rfl
theorem dig_facts (d : Nat) (h : d < 10) : isDig (UInt8.ofNat (48 + d)) = true ∧ (UInt8.ofNat (48 + d)).toNat - 48 = d := by
  have e : (UInt8.ofNat (48 + d)).toNat = 48 + d := by simp; omega
  exact ⟨by simp [isDig, e]; omega, by rw [e]; omega⟩
theorem dec_facts : ∀ (u : Nat), (∀ c ∈ Lib.decDigits u, isDig c = true) ∧ val (Lib.decDigits u) 0 = u := by
  intro u
  induction u using Nat.strongRecOn with
  | ind u ih =>
    rw [Lib.decDigits]
    split
    · rename_i h
      have := dig_facts u h
      refine ⟨fun c hc => by rw [List.mem_singleton] at hc; subst hc; exact this.1, ?_⟩
      show 10 * 0 + ((UInt8.ofNat (48 + u)).toNat - 48) = u
      rw [this.2]; omega
    · rename_i h
      have h1 := ih (u / 10) (by omega)
      have h2 := dig_facts (u % 10) (by omega)
      refine ⟨fun c hc => ?_, ?_⟩
      · rw [List.mem_append] at hc
        rcases hc with hc | hc
        · exact h1.1 c hc
        · rw [List.mem_singleton] at hc; subst hc; exact h2.1
      · rw [val, List.foldl_append]
        show 10 * val (Lib.decDigits (u / 10)) 0 + ((UInt8.ofNat (48 + u % 10)).toNat - 48) = u
        rw [h1.2, h2.2]; omega
theorem dec_head : ∀ (u : Nat), 0 < u → ∃ c r, Lib.decDigits u = c :: r ∧ c ≠ 48 := by
  intro u
  induction u using Nat.strongRecOn with
  | ind u ih =>
    intro hu
    rw [Lib.decDigits]
    split
    · rename_i h
      refine ⟨_, [], rfl, fun e => ?_⟩
      have := (dig_facts u h).2
      rw [e] at this
      simp at this
      omega
    · rename_i h
      obtain ⟨c, r, h1, h2⟩ := ih (u / 10) (by omega) (by omega)
      rw [h1]
      exact ⟨c, _, rfl, h2⟩
theorem dec_length : ∀ (k u : Nat), u < 10 ^ (k + 1) → (Lib.decDigits u).length ≤ k + 1 := by
  intro k
  induction k with
  | zero =>
    intro u h
    rw [Lib.decDigits, dif_pos (by simpa using h)]
    simp
  | succ k ih =>
    intro u h
    rw [Lib.decDigits]
    split
    · simp
    · rw [List.length_append]
      have := ih (u / 10) (by rw [Nat.pow_succ] at h; omega)
      simp; omega
theorem getLen_back (u : Nat) (c : UInt8) (hc : isDig c = false) : getLen (Lib.decDigits u ++ [c]) 0 u = ((u : Int), ((Lib.decDigits u).length : Int), 0) := by
  rcases Nat.eq_zero_or_pos u with h0 | h0
  · subst h0
    have e : Lib.decDigits 0 = [48] := by rw [Lib.decDigits]; rfl
    rw [e]
    rfl
  · obtain ⟨d, r, hd, h48⟩ := dec_head u h0
    have hf := dec_facts u
    have hr := digs_run u (Lib.decDigits u) [c] 0 hf.1 (by rw [hf.2]; exact Nat.le_refl _)
    have hs : digs u [c] u = some (u, 0) := by rw [digs, if_neg (by rw [hc]; simp)]
    rw [hf.2, hs] at hr
    have hdig : isDig d = true := hf.1 d (by rw [hd]; simp)
    have hM : (max (u : Int) 0).toNat = u := by omega
    unfold getLen
    rw [if_neg (by omega)]
    rw [hd] at hr ⊢
    rw [List.cons_append] at hr ⊢
    show (if isDig d = false then _ else if d = 48 then _ else _) = _
    rw [if_neg (by rw [hdig]; simp), if_neg h48, hM, hr]
    simp

end Oct
