/-
  Plain mathematics on Base64: bit by bit, and read back. No conditions.
-/
import Derived.Test.YtibebghnhicmfaaDoorMath
import Derived.Lib.Bytealg
import Derived.Lib.TrimByte
namespace Oct
open Go

def bitAt (l : List UInt8) (i : Nat) : Nat := (l.getD (i / 8) 0).toNat / 2 ^ (7 - i % 8) % 2
def acc (l : List UInt8) (i : Nat) : Nat → Nat
  | 0 => 0
  | k + 1 => 2 * acc l i k + bitAt l (i + k)
theorem bitAt_lt (l : List UInt8) (i : Nat) : bitAt l i < 2 := Nat.mod_lt _ (by omega)
theorem acc_lt (l : List UInt8) (i : Nat) : ∀ k, acc l i k < 2 ^ k
  | 0 => by simp [acc]
  | k + 1 => by
    have h1 := acc_lt l i k
    have h2 := bitAt_lt l (i + k)
    rw [acc, Nat.pow_succ]
    omega
theorem getD_toNat (l : List UInt8) (i : Nat) : (l.getD i 0).toNat < 256 := (l.getD i 0).toNat_lt
set_option maxHeartbeats 2000000 in
theorem acc_six (l : List UInt8) (q i : Nat) (hi : i < 4) : acc l (6 * (4 * q + i)) 6 = bits24 (l.drop (3 * q)) / 2 ^ (18 - 6 * i) % 64 := by
  have h0 := getD_toNat l (3 * q)
  have h1 := getD_toNat l (3 * q + 1)
  have h2 := getD_toNat l (3 * q + 2)
  have e : bits24 (l.drop (3 * q)) = (l.getD (3 * q) 0).toNat * 65536 + (l.getD (3 * q + 1) 0).toNat * 256 + (l.getD (3 * q + 2) 0).toNat := by
    simp [bits24, List.getD, List.getElem?_drop]
  rw [e]
  have hb : ∀ t, t < 24 → bitAt l (24 * q + t) = (l.getD (3 * q + t / 8) 0).toNat / 2 ^ (7 - t % 8) % 2 := by
    intro t _
    unfold bitAt
    rw [show (24 * q + t) / 8 = 3 * q + t / 8 from by omega, show (24 * q + t) % 8 = t % 8 from by omega]
  have h : i = 0 ∨ i = 1 ∨ i = 2 ∨ i = 3 := by omega
  rcases h with rfl | rfl | rfl | rfl
  · have b0 : bitAt l (6 * (4 * q + 0) + 0) = (l.getD (3 * q) 0).toNat / 128 % 2 := by
      rw [show 6 * (4 * q + 0) + 0 = 24 * q + 0 from by omega]
      exact hb 0 (by omega)
    have b1 : bitAt l (6 * (4 * q + 0) + 1) = (l.getD (3 * q) 0).toNat / 64 % 2 := by
      rw [show 6 * (4 * q + 0) + 1 = 24 * q + 1 from by omega]
      exact hb 1 (by omega)
    have b2 : bitAt l (6 * (4 * q + 0) + 2) = (l.getD (3 * q) 0).toNat / 32 % 2 := by
      rw [show 6 * (4 * q + 0) + 2 = 24 * q + 2 from by omega]
      exact hb 2 (by omega)
    have b3 : bitAt l (6 * (4 * q + 0) + 3) = (l.getD (3 * q) 0).toNat / 16 % 2 := by
      rw [show 6 * (4 * q + 0) + 3 = 24 * q + 3 from by omega]
      exact hb 3 (by omega)
    have b4 : bitAt l (6 * (4 * q + 0) + 4) = (l.getD (3 * q) 0).toNat / 8 % 2 := by
      rw [show 6 * (4 * q + 0) + 4 = 24 * q + 4 from by omega]
      exact hb 4 (by omega)
    have b5 : bitAt l (6 * (4 * q + 0) + 5) = (l.getD (3 * q) 0).toNat / 4 % 2 := by
      rw [show 6 * (4 * q + 0) + 5 = 24 * q + 5 from by omega]
      exact hb 5 (by omega)
    simp only [acc, b0, b1, b2, b3, b4, b5]
    generalize (l.getD (3 * q) 0).toNat = x0 at *
    generalize (l.getD (3 * q + 1) 0).toNat = x1 at *
    generalize (l.getD (3 * q + 2) 0).toNat = x2 at *
    clear hb e b0 b1 b2 b3 b4 b5
    omega
  · have b0 : bitAt l (6 * (4 * q + 1) + 0) = (l.getD (3 * q) 0).toNat / 2 % 2 := by
      rw [show 6 * (4 * q + 1) + 0 = 24 * q + 6 from by omega]
      exact hb 6 (by omega)
    have b1 : bitAt l (6 * (4 * q + 1) + 1) = (l.getD (3 * q) 0).toNat / 1 % 2 := by
      rw [show 6 * (4 * q + 1) + 1 = 24 * q + 7 from by omega]
      exact hb 7 (by omega)
    have b2 : bitAt l (6 * (4 * q + 1) + 2) = (l.getD (3 * q + 1) 0).toNat / 128 % 2 := by
      rw [show 6 * (4 * q + 1) + 2 = 24 * q + 8 from by omega]
      exact hb 8 (by omega)
    have b3 : bitAt l (6 * (4 * q + 1) + 3) = (l.getD (3 * q + 1) 0).toNat / 64 % 2 := by
      rw [show 6 * (4 * q + 1) + 3 = 24 * q + 9 from by omega]
      exact hb 9 (by omega)
    have b4 : bitAt l (6 * (4 * q + 1) + 4) = (l.getD (3 * q + 1) 0).toNat / 32 % 2 := by
      rw [show 6 * (4 * q + 1) + 4 = 24 * q + 10 from by omega]
      exact hb 10 (by omega)
    have b5 : bitAt l (6 * (4 * q + 1) + 5) = (l.getD (3 * q + 1) 0).toNat / 16 % 2 := by
      rw [show 6 * (4 * q + 1) + 5 = 24 * q + 11 from by omega]
      exact hb 11 (by omega)
    simp only [acc, b0, b1, b2, b3, b4, b5]
    generalize (l.getD (3 * q) 0).toNat = x0 at *
    generalize (l.getD (3 * q + 1) 0).toNat = x1 at *
    generalize (l.getD (3 * q + 2) 0).toNat = x2 at *
    clear hb e b0 b1 b2 b3 b4 b5
    omega
  · have b0 : bitAt l (6 * (4 * q + 2) + 0) = (l.getD (3 * q + 1) 0).toNat / 8 % 2 := by
      rw [show 6 * (4 * q + 2) + 0 = 24 * q + 12 from by omega]
      exact hb 12 (by omega)
    have b1 : bitAt l (6 * (4 * q + 2) + 1) = (l.getD (3 * q + 1) 0).toNat / 4 % 2 := by
      rw [show 6 * (4 * q + 2) + 1 = 24 * q + 13 from by omega]
      exact hb 13 (by omega)
    have b2 : bitAt l (6 * (4 * q + 2) + 2) = (l.getD (3 * q + 1) 0).toNat / 2 % 2 := by
      rw [show 6 * (4 * q + 2) + 2 = 24 * q + 14 from by omega]
      exact hb 14 (by omega)
    have b3 : bitAt l (6 * (4 * q + 2) + 3) = (l.getD (3 * q + 1) 0).toNat / 1 % 2 := by
      rw [show 6 * (4 * q + 2) + 3 = 24 * q + 15 from by omega]
      exact hb 15 (by omega)
    have b4 : bitAt l (6 * (4 * q + 2) + 4) = (l.getD (3 * q + 2) 0).toNat / 128 % 2 := by
      rw [show 6 * (4 * q + 2) + 4 = 24 * q + 16 from by omega]
      exact hb 16 (by omega)
    have b5 : bitAt l (6 * (4 * q + 2) + 5) = (l.getD (3 * q + 2) 0).toNat / 64 % 2 := by
      rw [show 6 * (4 * q + 2) + 5 = 24 * q + 17 from by omega]
      exact hb 17 (by omega)
    simp only [acc, b0, b1, b2, b3, b4, b5]
    generalize (l.getD (3 * q) 0).toNat = x0 at *
    generalize (l.getD (3 * q + 1) 0).toNat = x1 at *
    generalize (l.getD (3 * q + 2) 0).toNat = x2 at *
    clear hb e b0 b1 b2 b3 b4 b5
    omega
  · have b0 : bitAt l (6 * (4 * q + 3) + 0) = (l.getD (3 * q + 2) 0).toNat / 32 % 2 := by
      rw [show 6 * (4 * q + 3) + 0 = 24 * q + 18 from by omega]
      exact hb 18 (by omega)
    have b1 : bitAt l (6 * (4 * q + 3) + 1) = (l.getD (3 * q + 2) 0).toNat / 16 % 2 := by
      rw [show 6 * (4 * q + 3) + 1 = 24 * q + 19 from by omega]
      exact hb 19 (by omega)
    have b2 : bitAt l (6 * (4 * q + 3) + 2) = (l.getD (3 * q + 2) 0).toNat / 8 % 2 := by
      rw [show 6 * (4 * q + 3) + 2 = 24 * q + 20 from by omega]
      exact hb 20 (by omega)
    have b3 : bitAt l (6 * (4 * q + 3) + 3) = (l.getD (3 * q + 2) 0).toNat / 4 % 2 := by
      rw [show 6 * (4 * q + 3) + 3 = 24 * q + 21 from by omega]
      exact hb 21 (by omega)
    have b4 : bitAt l (6 * (4 * q + 3) + 4) = (l.getD (3 * q + 2) 0).toNat / 2 % 2 := by
      rw [show 6 * (4 * q + 3) + 4 = 24 * q + 22 from by omega]
      exact hb 22 (by omega)
    have b5 : bitAt l (6 * (4 * q + 3) + 5) = (l.getD (3 * q + 2) 0).toNat / 1 % 2 := by
      rw [show 6 * (4 * q + 3) + 5 = 24 * q + 23 from by omega]
      exact hb 23 (by omega)
    simp only [acc, b0, b1, b2, b3, b4, b5]
    generalize (l.getD (3 * q) 0).toNat = x0 at *
    generalize (l.getD (3 * q + 1) 0).toNat = x1 at *
    generalize (l.getD (3 * q + 2) 0).toNat = x2 at *
    clear hb e b0 b1 b2 b3 b4 b5
    omega

theorem acc_shift (l : List UInt8) (k : Nat) : ∀ m i, acc (l.drop (3 * k)) i m = acc l (24 * k + i) m
  | 0, _ => rfl
  | m + 1, i => by
    rw [acc, acc, acc_shift l k m i]
    congr 1
    unfold bitAt
    rw [show (24 * k + i + m) / 8 = 3 * k + (i + m) / 8 from by omega, show (24 * k + i + m) % 8 = (i + m) % 8 from by omega]
    simp [List.getD, List.getElem?_drop]
/-- The document's signs, group by group. -/
def grp (l : List UInt8) (j : Nat) : UInt8 := b64Sign (acc l (6 * j) 6)
theorem grp_sgn (l : List UInt8) (i : Nat) (hi : i < 4) : grp l i = sgn (bits24 l) i := by
  have := acc_six l 0 i hi
  simp only [Nat.mul_zero, Nat.zero_add, List.drop_zero] at this
  unfold grp sgn
  rw [this]
theorem grp_next (a b c : UInt8) (r : List UInt8) (j : Nat) : grp (a :: b :: c :: r) (j + 4) = grp r j := by
  have := acc_shift (a :: b :: c :: r) 1 6 (6 * j)
  unfold grp
  rw [show 6 * (j + 4) = 24 * 1 + 6 * j from by omega, ← this]
  rfl
theorem b64_groups : ∀ (l : List UInt8), b64 l = (List.range ((4 * l.length + 2) / 3)).map (grp l) ++ List.replicate ((4 - (4 * l.length + 2) / 3 % 4) % 4) 61
  | [] => by rfl
  | [a] => by
    rw [b64, chunk]
    simp only [List.length_cons, List.length_nil, Nat.zero_add, show min 3 1 = 1 from rfl, show (4 * 1 + 2) / 3 = 2 from rfl, show (4 - 2 % 4) % 4 = 2 from rfl, show 3 - 1 = 2 from rfl, show 1 + 1 = 2 from rfl]
    congr 1
    exact List.map_congr_left fun i hi => (grp_sgn [a] i (by have := List.mem_range.1 hi; omega)).symm
  | [a, b] => by
    rw [b64, chunk]
    simp only [List.length_cons, List.length_nil, Nat.zero_add, show 1 + 1 = 2 from rfl, show min 3 2 = 2 from rfl, show (4 * 2 + 2) / 3 = 3 from rfl, show (4 - 3 % 4) % 4 = 1 from rfl, show 3 - 2 = 1 from rfl, show 2 + 1 = 3 from rfl]
    congr 1
    exact List.map_congr_left fun i hi => (grp_sgn [a, b] i (by have := List.mem_range.1 hi; omega)).symm
  | a :: b :: c :: r => by
    have ih := b64_groups r
    have e1 : (4 * (a :: b :: c :: r).length + 2) / 3 = 4 + (4 * r.length + 2) / 3 := by simp only [List.length_cons]; omega
    rw [b64_step _ (by simp), e1, List.range_add, List.map_append, List.append_assoc]
    have e2 : (4 - (4 + (4 * r.length + 2) / 3) % 4) % 4 = (4 - (4 * r.length + 2) / 3 % 4) % 4 := by omega
    rw [e2]
    have e3 : chunk (a :: b :: c :: r) = (List.range 4).map (grp (a :: b :: c :: r)) := by
      rw [chunk, show min 3 (a :: b :: c :: r).length = 3 from by simp only [List.length_cons]; omega]
      show (List.range 4).map _ ++ [] = _
      rw [List.append_nil]
      exact List.map_congr_left fun i hi => (grp_sgn _ i (by have := List.mem_range.1 hi; omega)).symm
    rw [e3]
    congr 1
    show b64 r = _
    rw [ih]
    congr 1
    rw [List.map_map]
    refine List.map_congr_left fun j _ => ?_
    show grp r j = grp (a :: b :: c :: r) (4 + j)
    rw [Nat.add_comm 4 j, grp_next]

/-! Read back, as the program does: bits left over, how many of them, the bytes so far. -/
def val64 (c : UInt8) : Int := Lib.indexByte [65, 66, 67, 68, 69, 70, 71, 72, 73, 74, 75, 76, 77, 78, 79, 80, 81, 82, 83, 84, 85, 86, 87, 88, 89, 90, 97, 98, 99, 100, 101, 102, 103, 104, 105, 106, 107, 108, 109, 110, 111, 112, 113, 114, 115, 116, 117, 118, 119, 120, 121, 122, 48, 49, 50, 51, 52, 53, 54, 55, 56, 57, 43, 47] c
theorem val64_sign : ∀ n : Nat, n < 64 → val64 (b64Sign n) = n := by decide +kernel
theorem val64_lt : ∀ n : Nat, n < 256 → -1 ≤ val64 n.toUInt8 ∧ val64 n.toUInt8 < 64 := by decide +kernel
theorem sign_val64 : ∀ n : Nat, n < 256 → 0 ≤ val64 n.toUInt8 → b64Sign (val64 n.toUInt8).toNat = n.toUInt8 := by decide +kernel
theorem val64_bound (c : UInt8) : -1 ≤ val64 c ∧ val64 c < 64 := by simpa using val64_lt c.toNat c.toNat_lt
theorem sign_of_val64 (c : UInt8) (h : 0 ≤ val64 c) : b64Sign (val64 c).toNat = c := by
  have := sign_val64 c.toNat c.toNat_lt (by simpa using h)
  simpa using this
structure U where
  bits : Nat
  count : Nat
  out : List UInt8
def ustep (s : U) (d : Nat) : U :=
  if s.count + 6 ≥ 8 then ⟨(s.bits * 64 + d) % 2 ^ (s.count - 2), s.count - 2, s.out ++ [((s.bits * 64 + d) / 2 ^ (s.count - 2)).toUInt8]⟩
  else ⟨s.bits * 64 + d, s.count + 6, s.out⟩
def urun : List UInt8 → U → Option U
  | [], s => some s
  | c :: r, s => if val64 c < 0 then none else urun r (ustep s (val64 c).toNat)
/-- The bytes of which a text is the Base64, as the program finds them. -/
def ub64 (s : List UInt8) : Option (List UInt8) :=
  if s.length % 4 ≠ 0 ∨ s.length - (Lib.trimRightB s 61).length > 2 then none
  else match urun (Lib.trimRightB s 61) ⟨0, 0, []⟩ with
    | none => none
    | some u => if u.bits ≠ 0 then none else some u.out

end Oct
