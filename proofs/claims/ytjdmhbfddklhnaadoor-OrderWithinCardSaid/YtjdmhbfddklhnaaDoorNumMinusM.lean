/-
  Plain mathematics of numbers' texts: a minus sign ahead, noughts behind. No conditions.
-/
import Derived.Test.YtjdmhbfddklhnaaDoorNumOk
set_option linter.unusedSimpArgs false
set_option linter.unusedVariables false
namespace Go.Proofs.YtjdmhbfddklhnaaDoor
open Go Go.Proofs Go.RowKit Num9

namespace Num9
theorem digitsR_none (s t : Bool) (l : List UInt8) (h : digitsR s l = .none) : digitsR t l = .none := by
  unfold digitsR at h ⊢
  cases e : scan l true 0 0 0 0 with
  | none => rfl
  | some p =>
    obtain ⟨n, sc, ct⟩ := p
    rw [e] at h
    dsimp only at h ⊢
    split at h
    · rename_i h0; rw [if_pos h0]
    · cases h
theorem digitsR_val (s t : Bool) (l : List UInt8) {s' : Bool} {n sc : Nat} (h : digitsR s l = .val s' n sc) : s' = s ∧ digitsR t l = .val t n sc := by
  unfold digitsR at h ⊢
  cases e : scan l true 0 0 0 0 with
  | none => rw [e] at h; cases h
  | some p =>
    obtain ⟨n, sc, ct⟩ := p
    rw [e] at h
    dsimp only at h ⊢
    split at h
    · cases h
    · rename_i h0
      injection h with h1 h2 h3
      subst h1 h2 h3
      rw [if_neg h0]
      exact ⟨rfl, rfl⟩
theorem digitsR_cases (s : Bool) (l : List UInt8) : digitsR s l = .none ∨ ∃ n sc, digitsR s l = .val s n sc := by
  unfold digitsR
  split
  · exact .inl rfl
  · split
    · exact .inl rfl
    · exact .inr ⟨_, _, rfl⟩
theorem digitsR_bad (s : Bool) {c : UInt8} (r : List UInt8) (h : c.toNat ≠ 46) (hb : c.toNat < 48 ∨ 57 < c.toNat) : digitsR s (c :: r) = .none := by
  unfold digitsR
  rw [scan_bad h (by rcases hb with h | h; exact .inl h; exact .inr (.inl h))]

/-- What a minus sign ahead of a text does. -/
theorem minus_text (l : List UInt8) :
    (numR (45 :: l) = .none ∧ (numR l = .none ∨ numR l = .nan ∨ ∃ r, l = 45 :: r)) ∨
    (numR l = .inf false ∧ numR (45 :: l) = .inf true ∧ ∃ c r, l = c :: r ∧ c.toNat ≠ 45) ∨
    (∃ n sc, numR l = .val false n sc ∧ numR (45 :: l) = .val true n sc ∧ ∃ c r, l = c :: r ∧ c.toNat ≠ 45) := by
  by_cases h1 : l = [105, 110, 102]
  · subst h1
    exact .inr (.inl ⟨rfl, rfl, _, _, rfl, by decide⟩)
  have hm : numR (45 :: l) = digitsR true l := by
    unfold numR
    rw [if_neg (by simp), if_neg (by simpa using h1), if_neg (by simp)]
    rfl
  rw [hm]
  cases l with
  | nil => exact .inl ⟨rfl, .inl rfl⟩
  | cons c r =>
    by_cases hc : c.toNat = 45
    · have hc' : c = 45 := UInt8.toNat_inj.1 (by rw [hc]; rfl)
      exact .inl ⟨digitsR_bad _ _ (by omega) (.inl (by omega)), .inr (.inr ⟨r, by rw [hc']⟩)⟩
    · by_cases h3 : c :: r = [110, 97, 110]
      · rw [h3]
        exact .inl ⟨rfl, .inr (.inl rfl)⟩
      · have h2 : c :: r ≠ [45, 105, 110, 102] := by
          intro e; injection e with e _; subst e; exact hc rfl
        have hn : numR (c :: r) = digitsR false (c :: r) := by
          rw [numR_first rfl h1 h2 h3, if_neg hc]
        rw [hn]
        rcases digitsR_cases false (c :: r) with h | ⟨n, sc, h⟩
        · exact .inl ⟨digitsR_none _ _ _ h, .inl h⟩
        · exact .inr (.inr ⟨n, sc, h, (digitsR_val _ true _ h).2, c, r, rfl, hc⟩)

def isDg (c : UInt8) : Bool := decide (48 ≤ c.toNat) && decide (c.toNat ≤ 57)

theorem scan_count : ∀ (l : List UInt8) (f : Bool) (n sc ct st : Nat) (r : Nat × Nat × Nat), scan l f n sc ct st = some r → r.2.2 = ct + l.countP isDg
  | [], f, n, sc, ct, st, r, h => by
    simp only [scan, Option.some.injEq] at h
    subst h; simp
  | c :: l, f, n, sc, ct, st, r, h => by
    unfold scan at h
    split at h
    · rename_i h46
      split at h
      · cases h
      · have hd : isDg c = false := by simp [isDg, h46]
        rw [scan_count l _ _ _ _ _ r h, List.countP_cons, hd]; simp
    · split at h
      · cases h
      · rename_i hb
        have hd : isDg c = true := by simp [isDg]; omega
        rw [scan_count l _ _ _ _ _ r h, List.countP_cons, hd]; simp; omega

theorem scan_rep : ∀ (k : Nat) (f : Bool) (n sc ct : Nat), ct + k ≤ 15 → scan (List.replicate k 48) f n sc ct 1 = some (n * 10 ^ k, sc + k, ct + k)
  | 0, f, n, sc, ct, h => by simp [scan]
  | k + 1, f, n, sc, ct, h => by
    rw [List.replicate_succ, scan_dig (by decide) (by
      have : (48 : UInt8).toNat = 48 := rfl
      omega)]
    have e : (48 : UInt8).toNat - 48 = 0 := rfl
    rw [e, scan_rep k _ _ _ _ (by omega), Nat.pow_succ]
    simp only [Option.some.injEq, Prod.mk.injEq]
    refine ⟨?_, by omega, by omega⟩
    rw [Nat.add_zero, Nat.mul_comm 10 n, Nat.mul_assoc, Nat.mul_comm 10]

theorem scan_app : ∀ (l : List UInt8) (k : Nat) (f : Bool) (n sc ct st : Nat) (n' sc' ct' : Nat), scan l f n sc ct st = some (n', sc', ct') → ((46 : UInt8) ∈ l ∨ st = 1) → ct' + k ≤ 15 →
    scan (l ++ List.replicate k 48) f n sc ct st = some (n' * 10 ^ k, sc' + k, ct' + k)
  | [], k, f, n, sc, ct, st, n', sc', ct', h, hm, hk => by
    simp only [scan, Option.some.injEq, Prod.mk.injEq] at h
    obtain ⟨rfl, rfl, rfl⟩ := h
    rcases hm with h | rfl
    · cases h
    · exact scan_rep k f n sc ct hk
  | c :: l, k, f, n, sc, ct, st, n', sc', ct', h, hm, hk => by
    rw [List.cons_append]
    by_cases h46 : c.toNat = 46
    · by_cases hb : 0 < st ∨ f = true ∨ l = []
      · rw [scan_stop_bad h46 hb] at h; cases h
      · rw [scan_stop h46 hb] at h
        rw [scan_stop h46 (by
          rintro (h | h | h)
          · exact hb (.inl h)
          · exact hb (.inr (.inl h))
          · exact hb (.inr (.inr (List.append_eq_nil_iff.1 h).1)))]
        exact scan_app l k _ _ _ _ _ _ _ _ h (.inr rfl) hk
    · by_cases hb : c.toNat < 48 ∨ 57 < c.toNat ∨ ct = 15
      · rw [scan_bad h46 hb] at h; cases h
      · rw [scan_dig h46 hb] at h
        rw [scan_dig h46 hb]
        refine scan_app l k _ _ _ _ _ _ _ _ h ?_ hk
        rcases hm with hm | hm
        · rcases List.mem_cons.1 hm with e | e
          · exact absurd (by rw [← e]; rfl) h46
          · exact .inl e
        · exact .inr hm

theorem digitsR_app {s s' : Bool} {l : List UInt8} {k n sc : Nat} (h : digitsR s l = .val s' n sc) (hm : (46 : UInt8) ∈ l) (hk : l.countP isDg + k ≤ 15) : digitsR s (l ++ List.replicate k 48) = .val s' (n * 10 ^ k) (sc + k) := by
  unfold digitsR at h ⊢
  split at h
  · cases h
  · rename_i n' sc' ct' e
    have hct := scan_count l _ _ _ _ _ _ e
    dsimp only at hct
    rw [scan_app l k _ _ _ _ _ _ _ _ e (.inl hm) (by omega)]
    split at h
    · cases h
    · rename_i h0
      injection h with h1 h2 h3
      subst h1 h2 h3
      dsimp only
      rw [if_neg (by omega)]

/-- Noughts behind the full stop. -/
theorem nought_text {l : List UInt8} (k : Nat) (hm : (46 : UInt8) ∈ l) (hn : numR l ≠ .none) (hk : l.countP isDg + k ≤ 15) :
    ∃ s n sc, numR l = .val s n sc ∧ numR (l ++ List.replicate k 48) = .val s (n * 10 ^ k) (sc + k) := by
  have ne : ∀ m : List UInt8, (46 : UInt8) ∈ m → m ≠ [105, 110, 102] ∧ m ≠ [45, 105, 110, 102] ∧ m ≠ [110, 97, 110] := by
    intro m h
    refine ⟨?_, ?_, ?_⟩ <;> (rintro rfl; simp at h)
  obtain ⟨a1, a2, a3⟩ := ne l hm
  obtain ⟨b1, b2, b3⟩ := ne (l ++ List.replicate k 48) (List.mem_append_left _ hm)
  cases l with
  | nil => cases hm
  | cons c r =>
    rw [numR_first rfl a1 a2 a3] at hn ⊢
    rw [List.cons_append] at b1 b2 b3 ⊢
    rw [numR_first rfl b1 b2 b3]
    by_cases hc : c.toNat = 45
    · rw [if_pos hc] at hn ⊢
      rw [if_pos hc]
      have hm' : (46 : UInt8) ∈ r := by
        rcases List.mem_cons.1 hm with e | e
        · rw [← e] at hc; exact absurd hc (by decide)
        · exact e
      have hd : isDg c = false := by simp [isDg, hc]
      rw [List.countP_cons, hd] at hk
      rcases digitsR_cases true r with h | ⟨n, sc, h⟩
      · exact absurd h hn
      · exact ⟨_, _, _, h, digitsR_app h hm' (by simpa using hk)⟩
    · rw [if_neg hc] at hn ⊢
      rw [if_neg hc]
      rcases digitsR_cases false (c :: r) with h | ⟨n, sc, h⟩
      · exact absurd h hn
      · refine ⟨_, _, _, h, ?_⟩
        have := digitsR_app (k := k) h hm hk
        rwa [List.cons_append] at this

theorem nought_same {l : List UInt8} {k : Nat} {x y : Nat} {ok is : Bool} (hm : (46 : UInt8) ∈ l) (hk : l.countP isDg + k ≤ 15) (h1 : (numR l).Is x ok) (hok : ok = true) (h2 : (numR (l ++ List.replicate k 48)).Is y is) :
    is = true ∧ x = y ∧ (key x).isSome ∧ x < 2 ^ 64 := by
  have hn : numR l ≠ .none := by
    intro e; rw [e] at h1; rw [hok] at h1; exact absurd h1.2 (by decide)
  obtain ⟨s, n, sc, e1, e2⟩ := nought_text k hm hn hk
  rw [e1] at h1
  rw [e2] at h2
  obtain ⟨⟨q, hq, rfl⟩, _⟩ := h1
  obtain ⟨⟨q', hq', rfl⟩, rfl⟩ := h2
  obtain ⟨b1, b2⟩ := numR_val e1
  obtain ⟨c1, c2⟩ := numR_val e2
  have p1 := pow15 b2
  have p2 := pow15 c2
  rw [Nat.pow_add] at hq' p2
  rw [noughts (pow_pos10 k) (by omega) (pow_pos10 sc) (by omega), hq] at hq'
  injection hq' with hq'
  subst hq'
  obtain ⟨k1, k2⟩ := key_sgn s (quo_le (by omega) (pow_pos10 sc) (by omega) hq)
  exact ⟨rfl, rfl, k1, k2⟩

/-- What the law asks of a number below 0. -/
theorem minus_same {l : List UInt8} {x y : Nat} {ok is : Bool} (h1 : (numR l).Is x ok) (h2 : (numR (45 :: l)).Is y is) :
    (is = false ∧ (ok = false ∨ (∃ r, l = 45 :: r) ∨ key x = none)) ∨
    (is = true ∧ ok = true ∧ (∃ c r, l = c :: r ∧ c.toNat ≠ 45) ∧ (key x).isSome ∧ x < 2 ^ 64 ∧ y = Op.negFloat .f64 x ∧ (key y).isSome ∧ y < 2 ^ 64) := by
  rcases minus_text l with ⟨e, h⟩ | ⟨e1, e2, h⟩ | ⟨n, sc, e1, e2, h⟩
  · rw [e] at h2
    refine .inl ⟨h2.2, ?_⟩
    rcases h with h | h | h
    · rw [h] at h1; exact .inl h1.2
    · rw [h] at h1; exact .inr (.inr h1.1)
    · exact .inr (.inl h)
  · rw [e1] at h1
    rw [e2] at h2
    obtain ⟨rfl, rfl⟩ := h1
    obtain ⟨rfl, rfl⟩ := h2
    exact .inr ⟨rfl, rfl, h, by decide, by decide, by decide, by decide, by decide⟩
  · rw [e1] at h1
    rw [e2] at h2
    obtain ⟨⟨q, hq, rfl⟩, rfl⟩ := h1
    obtain ⟨⟨q', hq', rfl⟩, rfl⟩ := h2
    obtain ⟨b1, b2⟩ := numR_val e1
    have p1 := pow15 b2
    rw [hq] at hq'
    injection hq' with hq'
    subst hq'
    have hle := quo_le (by omega) (pow_pos10 sc) (by omega) hq
    obtain ⟨k1, k2⟩ := key_sgn false hle
    obtain ⟨j1, j2⟩ := key_sgn true hle
    exact .inr ⟨rfl, rfl, h, k1, k2, rfl, j1, j2⟩
end Num9
end Go.Proofs.YtjdmhbfddklhnaaDoor
