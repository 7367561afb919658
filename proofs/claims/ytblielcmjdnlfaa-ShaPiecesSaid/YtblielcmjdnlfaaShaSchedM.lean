/-
  The mathematics of a block's words, byte by byte and word by word. No conditions.
-/
import Derived.Test.YtblielcmjdnlfaaShaMath
set_option linter.unusedVariables false
namespace Sha5

theorem wordOf_snoc (l : List UInt8) (x : UInt8) : wordOf (l ++ [x]) = (256 * wordOf l + x.toNat) % M := by
  simp [wordOf, List.foldl_append]
theorem wordOf_lt (l : List UInt8) : wordOf l < M := by
  rcases List.eq_nil_or_concat l with rfl | ⟨l', x, rfl⟩
  · decide
  · rw [List.concat_eq_append, wordOf_snoc]; exact Nat.mod_lt _ (by decide)
/-- the other way to put a byte behind. -/
theorem word_or (x : Nat) (b : UInt8) : (x * 2 ^ 8 % M) ||| b.toNat = (256 * x + b.toNat) % M := by
  have hb := b.toNat_lt
  have e1 : x * 2 ^ 8 % M = 2 ^ 8 * (x % 2 ^ 56) := by
    have : M = 2 ^ 56 * 2 ^ 8 := by decide
    rw [this, Nat.mul_mod_mul_right, Nat.mul_comm]
  rw [e1, ← Nat.two_pow_add_eq_or_of_lt (by omega)]
  unfold M
  omega

/-- the words, when i bytes are in. -/
def partW (b : List UInt8) (i : Nat) : List Nat := (List.range 80).map fun t => wordOf (((b.take i).drop (8 * t)).take 8)
theorem partW_length (b : List UInt8) (i : Nat) : (partW b i).length = 80 := by simp [partW]
theorem partW_zero (b : List UInt8) : partW b 0 = List.replicate 80 0 := by
  simp only [partW, List.take_zero, List.drop_nil, List.take_nil]
  decide
theorem partW_get (b : List UInt8) (i t : Nat) (ht : t < 80) : (partW b i).getD t 0 = wordOf (((b.take i).drop (8 * t)).take 8) := by
  simp [partW, List.getD, ht]
theorem partW_get? (b : List UInt8) (i t : Nat) (ht : t < 80) : (partW b i)[t]? = some (wordOf (((b.take i).drop (8 * t)).take 8)) := by
  simp [partW, ht]
theorem partW_step (b : List UInt8) (i : Nat) (hi : i < b.length) (hb : b.length ≤ 128) :
    (partW b i).set (i / 8) ((256 * (partW b i).getD (i / 8) 0 + (b.getD i 0).toNat) % M) = partW b (i + 1) := by
  have htk : b.take (i + 1) = b.take i ++ [b.getD i 0] := by
    rw [List.take_succ_eq_append_getElem hi, List.getD_eq_getElem?_getD, List.getElem?_eq_getElem hi]; rfl
  have hl : (b.take i).length = i := by simp; omega
  apply List.ext_getElem?
  intro t
  by_cases ht : t < 80
  · rw [partW_get? b (i + 1) t ht, List.getElem?_set]
    by_cases hq : i / 8 = t
    · rw [if_pos hq, if_pos (by rw [partW_length]; omega)]
      subst hq
      have hl2 : ((b.take i).drop (8 * (i / 8))).length < 8 := by rw [List.length_drop, hl]; omega
      rw [partW_get b i _ ht, htk, List.drop_append_of_le_length (by omega)]
      generalize (b.take i).drop (8 * (i / 8)) = l at *
      have e1 : l.take 8 = l := List.take_of_length_le (by omega)
      have e2 : (l ++ [b.getD i 0]).take 8 = l ++ [b.getD i 0] := List.take_of_length_le (by rw [List.length_append, List.length_singleton]; omega)
      rw [e1, e2, wordOf_snoc]
    · rw [if_neg hq, partW_get? b i t ht]
      congr 2
      by_cases hlt : t < i / 8
      · rw [htk, List.drop_append_of_le_length (by omega), List.take_append_of_le_length (by rw [List.length_drop, hl]; omega)]
      · rw [List.drop_of_length_le (by omega), List.drop_of_length_le (by simp; omega)]
  · rw [List.getElem?_eq_none (by rw [List.length_set, partW_length]; omega), List.getElem?_eq_none (by rw [partW_length]; omega)]
theorem partW_all (b : List UInt8) (hb : b.length = 128) : partW b 128 = firstW b ++ List.replicate 64 0 := by
  have e : (List.range 80) = List.range 16 ++ (List.range 64).map (16 + ·) := by decide
  unfold partW firstW
  rw [e, List.map_append, List.take_of_length_le (by omega)]
  congr 1
  rw [List.map_map]
  apply List.ext_getElem?
  intro t
  by_cases ht : t < 64
  · rw [List.getElem?_map, List.getElem?_range ht, List.getElem?_replicate, if_pos ht]
    simp only [Option.map_some, Function.comp]
    rw [List.drop_of_length_le (by omega)]
    rfl
  · rw [List.getElem?_eq_none (by simp; omega), List.getElem?_eq_none (by simp; omega)]

/-- the table, when n words more are told. -/
def grownW (b : List UInt8) (n : Nat) : List Nat := schedN b n ++ List.replicate (64 - n) 0
theorem grownW_zero (b : List UInt8) : grownW b 0 = firstW b ++ List.replicate 64 0 := rfl
theorem grownW_all (b : List UInt8) : grownW b 64 = sched b := by simp [grownW, sched]
theorem grownW_length (b : List UInt8) (n : Nat) (hn : n ≤ 64) : (grownW b n).length = 80 := by
  simp [grownW, schedN_length]; omega
theorem grownW_old (b : List UInt8) (n t : Nat) (ht : t < 16 + n) : (grownW b n).getD t 0 = (schedN b n).getD t 0 := by
  rw [List.getD_eq_getElem?_getD, List.getD_eq_getElem?_getD, grownW, List.getElem?_append_left (by rw [schedN_length]; exact ht)]
theorem schedN_lt (b : List UInt8) : ∀ (n : Nat), ∀ x ∈ schedN b n, x < M
  | 0 => by
    intro x hx
    simp only [schedN, firstW, List.mem_map] at hx
    obtain ⟨t, _, rfl⟩ := hx
    exact wordOf_lt _
  | n + 1 => by
    intro x hx
    rw [schedN, List.mem_append, List.mem_singleton] at hx
    rcases hx with h | h
    · exact schedN_lt b n x h
    · subst h; exact Nat.mod_lt _ (by decide)
theorem getD_lt {l : List Nat} (h : ∀ x ∈ l, x < M) (t : Nat) : l.getD t 0 < M := by
  rw [List.getD_eq_getElem?_getD]
  cases ht : l[t]? with
  | none => decide
  | some x => exact h x (List.mem_of_getElem? ht)
theorem grownW_step (b : List UInt8) (n : Nat) (hn : n < 64) :
    (grownW b n).set (16 + n) ((s1 ((grownW b n).getD (14 + n) 0) + (grownW b n).getD (9 + n) 0 + s0 ((grownW b n).getD (1 + n) 0) + (grownW b n).getD n 0) % M) = grownW b (n + 1) := by
  rw [grownW_old b n _ (by omega), grownW_old b n _ (by omega), grownW_old b n _ (by omega), grownW_old b n _ (by omega)]
  have e : grownW b (n + 1) = schedN b n ++ (nextW (schedN b n) (16 + n) :: List.replicate (64 - (n + 1)) 0) := by
    simp [grownW, schedN]
  rw [e, grownW, List.set_append_right _ _ (by rw [schedN_length]; omega), schedN_length, Nat.sub_self, show 64 - n = 64 - (n + 1) + 1 by omega, List.replicate_succ, List.set_cons_zero]
  have e2 : nextW (schedN b n) (16 + n) = (s1 ((schedN b n).getD (14 + n) 0) + (schedN b n).getD (9 + n) 0 + s0 ((schedN b n).getD (1 + n) 0) + (schedN b n).getD n 0) % M := by
    unfold nextW
    rw [show 16 + n - 2 = 14 + n by omega, show 16 + n - 7 = 9 + n by omega, show 16 + n - 15 = 1 + n by omega, show 16 + n - 16 = n by omega]
  rw [e2]
theorem sched_length (b : List UInt8) : (sched b).length = 80 := schedN_length b 64
theorem sched_lt (b : List UInt8) : ∀ x ∈ sched b, x < M := schedN_lt b 64
end Sha5
