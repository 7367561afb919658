/-
  The mathematics of a hash to which bytes are written in pieces. No conditions.
-/
import Derived.Test.YtblielcmjdnlfaaShaSchedM
import Derived.Test.YtblielcmjdnlfaaShaRoots
set_option linter.unusedVariables false
namespace Sha5

theorem H0_ok : H0.ok := by unfold St.ok H0 M; decide

/-- the words and the block of a hash to which D was written. -/
def HashOk (s : St) (b D : List UInt8) : Prop := b.length = 128 ∧ s = blocks KS H0 D (D.length / 128) ∧ b.take (D.length % 128) = D.drop (128 * (D.length / 128))

/-- bytes laid over a block. -/
def laid (b x : List UInt8) (f : Nat) : List UInt8 := b.take f ++ (x ++ b.drop (f + x.length))
theorem laid_length (b x : List UInt8) (f : Nat) (h : f + x.length ≤ b.length) : (laid b x f).length = b.length := by
  simp [laid]; omega
theorem HashOk.ok {s : St} {b D : List UInt8} (h : HashOk s b D) : s.ok := by rw [h.2.1]; exact blocks_ok H0_ok _
theorem laid_take {b x D : List UInt8} (h : b.take (D.length % 128) = D.drop (128 * (D.length / 128))) (hb : b.length = 128) (hx : D.length % 128 + x.length ≤ 128) :
    (laid b x (D.length % 128)).take (D.length % 128 + x.length) = D.drop (128 * (D.length / 128)) ++ x := by
  have hl : (b.take (D.length % 128)).length = D.length % 128 := by simp; omega
  rw [h] at hl
  unfold laid
  rw [h, ← List.append_assoc]
  exact List.take_left' (by rw [List.length_append, hl])
theorem HashOk.more {s : St} {b D x : List UInt8} (h : HashOk s b D) (hx : D.length % 128 + x.length ≤ 128) (hn : (D.length + x.length) % 128 ≠ 0 ) :
    HashOk s (laid b x (D.length % 128)) (D ++ x) := by
  obtain ⟨h1, h2, h3⟩ := h
  have e1 : (D ++ x).length = D.length + x.length := List.length_append
  have e2 : (D.length + x.length) / 128 = D.length / 128 := by omega
  have e3 : (D.length + x.length) % 128 = D.length % 128 + x.length := by omega
  refine ⟨by rw [laid_length _ _ _ (by omega), h1], ?_, ?_⟩
  · rw [e1, e2, h2, blocks_append _ _ _ _ _ (by omega)]
  · rw [e1, e2, e3, laid_take h3 h1 hx, List.drop_append_of_le_length (by omega)]
theorem HashOk.full {s : St} {b D x : List UInt8} (h : HashOk s b D) (hx : D.length % 128 + x.length = 128) :
    HashOk (stir KS s (laid b x (D.length % 128))) (laid b x (D.length % 128)) (D ++ x) := by
  obtain ⟨h1, h2, h3⟩ := h
  have e1 : (D ++ x).length = D.length + x.length := List.length_append
  have e2 : (D.length + x.length) / 128 = D.length / 128 + 1 := by omega
  have e3 : (D.length + x.length) % 128 = 0 := by omega
  have hl := laid_length b x (D.length % 128) (by omega)
  refine ⟨by rw [hl, h1], ?_, ?_⟩
  · rw [e1, e2]
    have e4 : (laid b x (D.length % 128)).take 128 = laid b x (D.length % 128) := List.take_of_length_le (by omega)
    have e5 := laid_take (x := x) h3 h1 (by omega)
    rw [hx, e4] at e5
    have e6 : ((D ++ x).drop (128 * (D.length / 128))).take 128 = laid b x (D.length % 128) := by
      have e7 : (D ++ x).drop (128 * (D.length / 128)) = D.drop (128 * (D.length / 128)) ++ x := List.drop_append_of_le_length (by omega)
      rw [e7, ← e5, e4]
    show _ = stir KS (blocks KS H0 (D ++ x) (D.length / 128)) (((D ++ x).drop (128 * (D.length / 128))).take 128)
    rw [e6, blocks_append KS H0 D x (D.length / 128) (by omega), ← h2]
  · have e8 : (D ++ x).drop (128 * (D.length / 128 + 1)) = [] := List.drop_of_length_le (by rw [e1]; omega)
    rw [e1, e2, e3, List.take_zero, e8]
theorem HashOk.zero (b : List UInt8) (h : b.length = 128) : HashOk H0 b [] := ⟨h, rfl, rfl⟩

theorem zerosN_spec (n : Nat) : (n + 1 + zerosN n) % 128 = 112 := by unfold zerosN; omega
theorem zerosN_least (n k : Nat) (hk : k < zerosN n) : (n + 1 + k) % 128 ≠ 112 := by unfold zerosN at hk; omega
theorem zerosN_lt (n : Nat) : zerosN n < 128 := by unfold zerosN; omega
end Sha5
