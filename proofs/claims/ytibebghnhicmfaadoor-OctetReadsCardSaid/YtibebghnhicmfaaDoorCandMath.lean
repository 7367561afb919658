/-
  Plain mathematics on the document's reader of Base64, bit by bit. No conditions.
-/
import Derived.Test.YtibebghnhicmfaaDoorUb64Math
namespace Oct
open Go

def six (n : Nat) : List UInt8 := [(n / 32 % 2).toUInt8, (n / 16 % 2).toUInt8, (n / 8 % 2).toUInt8, (n / 4 % 2).toUInt8, (n / 2 % 2).toUInt8, (n / 1 % 2).toUInt8]
def isSign (c : UInt8) : Bool := decide (0 ≤ val64 c)
def bitsOf (l : List UInt8) : List UInt8 := l.flatMap fun c => six (val64 c).toNat
def accB (b : List UInt8) (i : Nat) : Nat → Nat
  | 0 => 0
  | k + 1 => 2 * accB b i k + (b.getD (i + k) 0).toNat
def cand (s : List UInt8) : List UInt8 := (List.range ((bitsOf (s.takeWhile isSign)).length / 8)).map fun j => (accB (bitsOf (s.takeWhile isSign)) (8 * j) 8).toUInt8

theorem six_bits (y : List UInt8) (j : Nat) : six (acc y (6 * j) 6) = [(bitAt y (6 * j)).toUInt8, (bitAt y (6 * j + 1)).toUInt8, (bitAt y (6 * j + 2)).toUInt8, (bitAt y (6 * j + 3)).toUInt8, (bitAt y (6 * j + 4)).toUInt8, (bitAt y (6 * j + 5)).toUInt8] := by
  have h0 := bitAt_lt y (6 * j)
  have h1 := bitAt_lt y (6 * j + 1)
  have h2 := bitAt_lt y (6 * j + 2)
  have h3 := bitAt_lt y (6 * j + 3)
  have h4 := bitAt_lt y (6 * j + 4)
  have h5 := bitAt_lt y (6 * j + 5)
  simp only [six, acc, Nat.add_zero]
  generalize bitAt y (6 * j) = a0 at *
  generalize bitAt y (6 * j + 1) = a1 at *
  generalize bitAt y (6 * j + 2) = a2 at *
  generalize bitAt y (6 * j + 3) = a3 at *
  generalize bitAt y (6 * j + 4) = a4 at *
  generalize bitAt y (6 * j + 5) = a5 at *
  rw [show (2 * (2 * (2 * (2 * (2 * (2 * 0 + a0) + a1) + a2) + a3) + a4) + a5) / 32 % 2 = a0 from by omega,
    show (2 * (2 * (2 * (2 * (2 * (2 * 0 + a0) + a1) + a2) + a3) + a4) + a5) / 16 % 2 = a1 from by omega,
    show (2 * (2 * (2 * (2 * (2 * (2 * 0 + a0) + a1) + a2) + a3) + a4) + a5) / 8 % 2 = a2 from by omega,
    show (2 * (2 * (2 * (2 * (2 * (2 * 0 + a0) + a1) + a2) + a3) + a4) + a5) / 4 % 2 = a3 from by omega,
    show (2 * (2 * (2 * (2 * (2 * (2 * 0 + a0) + a1) + a2) + a3) + a4) + a5) / 2 % 2 = a4 from by omega,
    show (2 * (2 * (2 * (2 * (2 * (2 * 0 + a0) + a1) + a2) + a3) + a4) + a5) / 1 % 2 = a5 from by omega]
theorem bits_range (y : List UInt8) : ∀ J, bitsOf ((List.range J).map (grp y)) = (List.range (6 * J)).map fun t => (bitAt y t).toUInt8
  | 0 => rfl
  | J + 1 => by
    have ih := bits_range y J
    have hv : val64 (grp y J) = (acc y (6 * J) 6 : Nat) := val64_sign _ (acc_lt y (6 * J) 6)
    rw [List.range_succ, List.map_append]
    unfold bitsOf at ih ⊢
    rw [List.flatMap_append, ih]
    simp only [List.map_cons, List.map_nil, List.flatMap_cons, List.flatMap_nil, List.append_nil, hv, Int.toNat_natCast]
    rw [six_bits, show 6 * (J + 1) = 6 * J + 1 + 1 + 1 + 1 + 1 + 1 from by omega]
    simp only [List.range_succ, List.map_append, List.map_cons, List.map_nil, List.append_assoc, List.cons_append, List.nil_append]
theorem grp_isSign (y : List UInt8) (j : Nat) : isSign (grp y j) = true := by
  have hv : val64 (grp y j) = (acc y (6 * j) 6 : Nat) := val64_sign _ (acc_lt y (6 * j) 6)
  unfold isSign
  rw [hv]
  simp
theorem pad_not : isSign 61 = false := by decide +kernel
theorem take_b64 (y : List UInt8) : (b64 y).takeWhile isSign = (List.range ((4 * y.length + 2) / 3)).map (grp y) := by
  rw [b64_groups]
  have h : ∀ (l : List UInt8) (p : Nat), (∀ c ∈ l, isSign c = true) → (l ++ List.replicate p 61).takeWhile isSign = l := by
    intro l p hl
    rw [List.takeWhile_append_of_pos hl]
    cases p with
    | zero => simp
    | succ p => rw [List.replicate_succ, List.takeWhile_cons_of_neg (by rw [pad_not]; simp), List.append_nil]
  refine h _ _ ?_
  intro c hc
  rw [List.mem_map] at hc
  obtain ⟨j, _, rfl⟩ := hc
  exact grp_isSign y j
theorem accB_acc (y : List UInt8) (N i : Nat) : ∀ k, i + k ≤ N → accB ((List.range N).map fun t => (bitAt y t).toUInt8) i k = acc y i k
  | 0, _ => rfl
  | k + 1, h => by
    have hb := bitAt_lt y (i + k)
    rw [accB, acc, accB_acc y N i k (by omega)]
    have e : ((List.range N).map fun t => (bitAt y t).toUInt8).getD (i + k) 0 = (bitAt y (i + k)).toUInt8 := by
      simp [List.getD, List.getElem?_map, List.getElem?_range (show i + k < N by omega)]
    rw [e, nat_byte _ (by omega)]
set_option maxHeartbeats 1000000 in
theorem acc_byte (y : List UInt8) (j : Nat) : acc y (8 * j) 8 = (y.getD j 0).toNat := by
  have hx := getD_toNat y j
  have hb : ∀ k, k < 8 → bitAt y (8 * j + k) = (y.getD j 0).toNat / 2 ^ (7 - k) % 2 := by
    intro k hk
    unfold bitAt
    rw [show (8 * j + k) / 8 = j from by omega, show (8 * j + k) % 8 = k from by omega]
  generalize (y.getD j 0).toNat = x at *
  have b0 : bitAt y (8 * j + 0) = x / 128 % 2 := hb 0 (by omega)
  have b1 : bitAt y (8 * j + 1) = x / 64 % 2 := hb 1 (by omega)
  have b2 : bitAt y (8 * j + 2) = x / 32 % 2 := hb 2 (by omega)
  have b3 : bitAt y (8 * j + 3) = x / 16 % 2 := hb 3 (by omega)
  have b4 : bitAt y (8 * j + 4) = x / 8 % 2 := hb 4 (by omega)
  have b5 : bitAt y (8 * j + 5) = x / 4 % 2 := hb 5 (by omega)
  have b6 : bitAt y (8 * j + 6) = x / 2 % 2 := hb 6 (by omega)
  have b7 : bitAt y (8 * j + 7) = x / 1 % 2 := hb 7 (by omega)
  simp only [acc, b0, b1, b2, b3, b4, b5, b6, b7]
  clear b0 b1 b2 b3 b4 b5 b6 b7 hb
  omega
theorem cand_b64 (y : List UInt8) : cand (b64 y) = y := by
  unfold cand
  rw [take_b64, bits_range, List.length_map, List.length_range]
  have hN : 6 * ((4 * y.length + 2) / 3) / 8 = y.length := by omega
  rw [hN]
  apply List.ext_getElem?
  intro i
  by_cases hi : i < y.length
  · rw [List.getElem?_map, List.getElem?_range hi, List.getElem?_eq_getElem hi, Option.map_some, accB_acc y _ _ 8 (by omega), acc_byte]
    simp [List.getD, List.getElem?_eq_getElem hi]
  · rw [List.getElem?_eq_none (by simp; omega), List.getElem?_eq_none (by omega)]
/-- The document's reader is the program's. -/
theorem cand_yes (s : List UInt8) (h : b64 (cand s) = s) : ub64 s = some (cand s) := by
  have := ub64_b64 (cand s)
  rwa [h] at this
theorem cand_no (s : List UInt8) (h : b64 (cand s) ≠ s) : ub64 s = none := by
  cases hu : ub64 s with
  | none => rfl
  | some y =>
    have hy := b64_ub64 s y hu
    exact absurd (by rw [← hy, cand_b64]) h
end Oct
