/-
  What the laws of layer 9 ask of the program's package number, and the law file's awake over it. Conditions: those contracts.
-/
import Derived.Test.YtjdmhbfddklhnaaDoorNumCmp
set_option linter.unusedSimpArgs false
set_option linter.unusedVariables false
namespace Go.Proofs.YtjdmhbfddklhnaaDoor
open Go Go.Proofs Go.RowKit Num9

namespace Num9
open Ieee
theorem key_le {x : Nat} (h : x % 2 ^ 63 ≤ 2047 * 2 ^ 52) : (key x).isSome := by
  unfold key
  rw [read_def]
  by_cases h1 : x % 2 ^ 63 < 2 ^ 52
  · rw [if_pos h1]; rfl
  · rw [if_neg h1]
    by_cases h2 : x % 2 ^ 63 < 2047 * 2 ^ 52
    · rw [if_pos h2]; rfl
    · rw [if_neg h2, if_pos (by omega)]; rfl
theorem rnd_le (A B : Nat) (p : Int) : rnd A B p ≤ 2047 * 2 ^ 52 := by
  unfold rnd Format.nearest
  split
  · show (0 : Nat) ≤ _; omega
  · show double.word false _ ≤ _
    unfold Format.word
    simp only [Bool.false_eq_true, if_false, inf52]
    omega
theorem quo_le {n t q : Nat} (hn : n < 2 ^ 53) (h0 : 0 < t) (ht : t < 2 ^ 53) (h : double.div (conv n) (conv t) = some q) : q ≤ 2047 * 2 ^ 52 := by
  rcases Nat.eq_zero_or_pos n with rfl | hp
  · rw [quo_zero h0 ht] at h
    injection h with h; omega
  · rw [quo_eq hp hn h0 ht] at h
    injection h with h
    rw [← h]; exact rnd_le _ _ _
theorem neg_small {q : Nat} (h : q < 2 ^ 63) : Op.negFloat .f64 q = q + 2 ^ 63 := by
  show q ^^^ 2 ^ 63 = _
  have e : 2 ^ 63 * 1 + q = 2 ^ 63 * 1 ||| q := Nat.two_pow_add_eq_or_of_lt h 1
  rw [Nat.mul_one] at e
  rw [Nat.add_comm, e]
  apply Nat.eq_of_testBit_eq
  intro i
  rw [Nat.testBit_xor, Nat.testBit_or, Nat.testBit_two_pow]
  by_cases hi : 63 = i
  · subst hi; rw [Nat.testBit_lt_two_pow h]; simp
  · simp [hi]
theorem neg_great {q : Nat} (h : q < 2 ^ 63) : Op.negFloat .f64 (q + 2 ^ 63) = q := by
  rw [← neg_small h]
  show q ^^^ 2 ^ 63 ^^^ 2 ^ 63 = _
  rw [Nat.xor_assoc, Nat.xor_self, Nat.xor_zero]
theorem key_sgn {q : Nat} (s : Bool) (h : q ≤ 2047 * 2 ^ 52) : (key (sgn s q)).isSome ∧ sgn s q < 2 ^ 64 := by
  cases s
  · exact ⟨key_le (show q % 2 ^ 63 ≤ _ by omega), show q < _ by omega⟩
  · show (key (Op.negFloat .f64 q)).isSome ∧ Op.negFloat .f64 q < 2 ^ 64
    rw [neg_small (by omega)]
    exact ⟨key_le (by omega), by omega⟩
theorem numR_val {l : List UInt8} {s : Bool} {n sc : Nat} (h : numR l = .val s n sc) : n < 10 ^ 15 ∧ sc ≤ 15 := by
  have hd : ∀ (s' : Bool) (l' : List UInt8), digitsR s' l' = .val s n sc → n < 10 ^ 15 ∧ sc ≤ 15 := by
    intro s' l' h
    unfold digitsR at h
    split at h
    · cases h
    · rename_i n' sc' ct' e
      split at h
      · cases h
      · injection h with _ h2 h3
        subst h2 h3
        obtain ⟨a1, a2, a3⟩ := scan_bounds l' _ _ _ _ _ _ (by decide) (by decide) (by decide) (by decide) e
        exact ⟨Nat.lt_of_lt_of_le a1 (Nat.pow_le_pow_right (by decide) a3), by dsimp only at a2 a3; omega⟩
  unfold numR at h
  split at h
  · cases h
  · split at h
    · cases h
    · split at h
      · cases h
      · split at h
        · split at h
          · exact hd _ _ h
          · exact hd _ _ h
        · cases h
theorem is_same {l : List UInt8} {x y : Nat} {ok is : Bool} (h1 : (numR l).Is x ok) (h2 : (numR l).Is y is) : ok = is ∧ ((key x = none ∧ key y = none) ∨ (x = y ∧ (key x).isSome ∧ x < 2 ^ 64)) := by
  cases hR : numR l with
  | none =>
    rw [hR] at h1 h2
    obtain ⟨rfl, rfl⟩ := h1
    obtain ⟨rfl, rfl⟩ := h2
    exact ⟨rfl, .inr ⟨rfl, by decide, by decide⟩⟩
  | nan =>
    rw [hR] at h1 h2
    obtain ⟨a, rfl⟩ := h1
    obtain ⟨b, rfl⟩ := h2
    exact ⟨rfl, .inl ⟨a, b⟩⟩
  | inf s =>
    rw [hR] at h1 h2
    obtain ⟨rfl, rfl⟩ := h1
    obtain ⟨rfl, rfl⟩ := h2
    refine ⟨rfl, .inr ⟨rfl, ?_, ?_⟩⟩ <;> cases s <;> decide
  | val s n sc =>
    rw [hR] at h1 h2
    obtain ⟨⟨q, hq, rfl⟩, rfl⟩ := h1
    obtain ⟨⟨q', hq', rfl⟩, rfl⟩ := h2
    rw [hq] at hq'
    injection hq' with hq'
    subst hq'
    obtain ⟨b1, b2⟩ := numR_val hR
    have h15 := pow15 b2
    obtain ⟨c1, c2⟩ := key_sgn s (quo_le (by omega) (pow_pos10 sc) (by omega) hq)
    exact ⟨rfl, .inr ⟨rfl, c1, c2⟩⟩
end Num9

theorem reads_built (w : World) (l : List UInt8) (n : Nat) (c : Nat × Nat) (hl : l.length = n) : Reads (w.alloc (.cells (Lib.byteCells l).toArray 5 c)) (w.heap.size + 1) 1 (some ⟨w.heap.size, 0, none⟩) n (Lib.byteCells l) := by
  refine ⟨by rw [Lib.byteCells_length, hl, Nat.mul_one], fun _ => ⟨_, rfl, by simp, fun j u hj => ?_⟩⟩
  rw [show (⟨w.heap.size, 0, none⟩ : Addr).add j = ⟨w.heap.size, j, none⟩ from by unfold Addr.add; split <;> simp_all]
  rw [Lib.cell_of_heap (heap_alloc_new w _)]
  rw [List.getElem?_toArray]
  exact hj

end Go.Proofs.YtjdmhbfddklhnaaDoor
