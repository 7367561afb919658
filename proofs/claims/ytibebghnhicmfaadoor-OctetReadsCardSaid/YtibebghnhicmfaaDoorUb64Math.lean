/-
  Plain mathematics on Base64: what is written is read, and what is read is written as it stood. No conditions.
-/
import Derived.Test.YtibebghnhicmfaaDoorB64Math
namespace Oct
open Go

def sgs : List UInt8 → List UInt8
  | [] => []
  | [a] => [sgn (bits24 [a]) 0, sgn (bits24 [a]) 1]
  | [a, b] => [sgn (bits24 [a, b]) 0, sgn (bits24 [a, b]) 1, sgn (bits24 [a, b]) 2]
  | a :: b :: c :: r => sgn (bits24 [a, b, c]) 0 :: sgn (bits24 [a, b, c]) 1 :: sgn (bits24 [a, b, c]) 2 :: sgn (bits24 [a, b, c]) 3 :: sgs r
def pad (n : Nat) : Nat := (3 - n % 3) % 3
theorem b64_sgs : ∀ (y : List UInt8), b64 y = sgs y ++ List.replicate (pad y.length) 61
  | [] => rfl
  | [a] => rfl
  | [a, b] => rfl
  | a :: b :: c :: r => by
    have ih := b64_sgs r
    have hp : pad (a :: b :: c :: r).length = pad r.length := by simp only [pad, List.length_cons]; omega
    rw [b64, sgs, hp, ih]
    rfl
theorem sgs_length : ∀ (y : List UInt8), (sgs y).length + pad y.length = 4 * ((y.length + 2) / 3)
  | [] => rfl
  | [a] => by simp [sgs, pad]
  | [a, b] => by simp [sgs, pad]
  | a :: b :: c :: r => by
    have ih := sgs_length r
    have hp : pad (a :: b :: c :: r).length = pad r.length := by simp only [pad, List.length_cons]; omega
    rw [hp]
    simp only [sgs, List.length_cons]
    omega
theorem sign_ne : ∀ n : Nat, n < 64 → b64Sign n ≠ 61 := by decide
theorem sgn_ne (v i : Nat) : sgn v i ≠ 61 := sign_ne _ (Nat.mod_lt _ (by omega))
theorem sgs_ne : ∀ (y : List UInt8) (c : UInt8), c ∈ sgs y → c ≠ 61
  | [], c, h => by simp [sgs] at h
  | [a], c, h => by
    simp only [sgs, List.mem_cons, List.mem_nil_iff, or_false] at h
    rcases h with rfl | rfl <;> exact sgn_ne _ _
  | [a, b], c, h => by
    simp only [sgs, List.mem_cons, List.mem_nil_iff, or_false] at h
    rcases h with rfl | rfl | rfl <;> exact sgn_ne _ _
  | a :: b :: d :: r, c, h => by
    simp only [sgs, List.mem_cons] at h
    rcases h with rfl | rfl | rfl | rfl | h
    · exact sgn_ne _ _
    · exact sgn_ne _ _
    · exact sgn_ne _ _
    · exact sgn_ne _ _
    · exact sgs_ne r c h
theorem trim_pad (l : List UInt8) (p : Nat) (h : ∀ c ∈ l, c ≠ 61) : Lib.trimRightB (l ++ List.replicate p 61) 61 = l := by
  unfold Lib.trimRightB
  rw [List.reverse_append, List.reverse_replicate, List.dropWhile_append_of_pos (by intro c hc; simp [List.eq_of_mem_replicate hc])]
  have : (l.reverse.dropWhile (· == 61)) = l.reverse := by
    cases hr : l.reverse with
    | nil => rfl
    | cons c r =>
      have hc : c ∈ l := by rw [← List.mem_reverse, hr]; simp
      rw [List.dropWhile_cons_of_neg (by simpa using h c hc)]
  rw [this, List.reverse_reverse]
theorem mem_tw (p : UInt8 → Bool) : ∀ (l : List UInt8) (b : UInt8), b ∈ l.takeWhile p → p b = true
  | [], b, h => by simp at h
  | c :: r, b, h => by
    rw [List.takeWhile_cons] at h
    split at h
    · rename_i hc
      rcases List.mem_cons.1 h with rfl | h
      · exact hc
      · exact mem_tw p r b h
    · cases h
theorem trim_split (s : List UInt8) : s = Lib.trimRightB s 61 ++ List.replicate (s.length - (Lib.trimRightB s 61).length) 61 := by
  have h := List.takeWhile_append_dropWhile (p := fun x : UInt8 => x == 61) (l := s.reverse)
  have ht : ∀ l : List UInt8, l.takeWhile (fun x => x == 61) = List.replicate (l.takeWhile (fun x => x == 61)).length 61 := by
    intro l
    rw [List.eq_replicate_iff]
    refine ⟨rfl, fun b hb => ?_⟩
    have := mem_tw (fun x : UInt8 => x == 61) l b hb
    simpa using this
  have h2 := congrArg List.reverse h
  rw [List.reverse_append, List.reverse_reverse] at h2
  have h3 : (s.reverse.takeWhile (fun x => x == 61)).reverse = List.replicate (s.length - (Lib.trimRightB s 61).length) 61 := by
    have hl := congrArg List.length h2
    rw [List.length_append, List.length_reverse] at hl
    rw [ht s.reverse, List.reverse_replicate]
    congr 1
    unfold Lib.trimRightB
    simp only [List.length_reverse] at hl ⊢
    omega
  rw [h3] at h2
  exact h2.symm

theorem urun_sign (n : Nat) (hn : n < 64) (r : List UInt8) (s : U) : urun (b64Sign n :: r) s = urun r (ustep s n) := by
  rw [urun, val64_sign n hn, if_neg (by omega)]
  rfl
theorem step0 (b : Nat) (out : List UInt8) (d : Nat) : ustep ⟨b, 0, out⟩ d = ⟨b * 64 + d, 6, out⟩ := by simp [ustep]
theorem step6 (b : Nat) (out : List UInt8) (d : Nat) : ustep ⟨b, 6, out⟩ d = ⟨(b * 64 + d) % 16, 4, out ++ [((b * 64 + d) / 16).toUInt8]⟩ := by simp [ustep]
theorem step4 (b : Nat) (out : List UInt8) (d : Nat) : ustep ⟨b, 4, out⟩ d = ⟨(b * 64 + d) % 4, 2, out ++ [((b * 64 + d) / 4).toUInt8]⟩ := by simp [ustep]
theorem step2 (b : Nat) (out : List UInt8) (d : Nat) : ustep ⟨b, 2, out⟩ d = ⟨0, 0, out ++ [(b * 64 + d).toUInt8]⟩ := by simp [ustep]; omega
theorem byte_of (x : UInt8) (n : Nat) (h : n = x.toNat) : n.toUInt8 = x := by rw [h]; simp
theorem U_eq {b b' c : Nat} {o o' : List UInt8} (h1 : b = b') (h2 : o = o') : some (U.mk b c o) = some (U.mk b' c o') := by rw [h1, h2]
theorem urun_sgs : ∀ (y out : List UInt8), ∃ c, urun (sgs y) ⟨0, 0, out⟩ = some ⟨0, c, out ++ y⟩
  | [], out => ⟨0, by simp [sgs, urun]⟩
  | [a], out => by
    have ha := a.toNat_lt
    have hv : bits24 [a] = a.toNat * 65536 := by simp [bits24]
    refine ⟨4, ?_⟩
    simp only [sgs, sgn, hv]
    rw [urun_sign _ (Nat.mod_lt _ (by omega)), urun_sign _ (Nat.mod_lt _ (by omega)), step0, step6, urun]
    simp only [Nat.mul_zero, Nat.sub_zero, Nat.mul_one]
    exact U_eq (by omega) (by rw [byte_of a _ (by omega)])
  | [a, b], out => by
    have ha := a.toNat_lt
    have hb := b.toNat_lt
    have hv : bits24 [a, b] = a.toNat * 65536 + b.toNat * 256 := by simp [bits24]
    refine ⟨2, ?_⟩
    simp only [sgs, sgn, hv]
    rw [urun_sign _ (Nat.mod_lt _ (by omega)), urun_sign _ (Nat.mod_lt _ (by omega)), urun_sign _ (Nat.mod_lt _ (by omega)), step0, step6, step4, urun]
    simp only [Nat.mul_zero, Nat.sub_zero, Nat.mul_one]
    exact U_eq (by omega) (by rw [byte_of a _ (by omega), byte_of b _ (by omega)]; simp)
  | a :: b :: c :: r, out => by
    have ha := a.toNat_lt
    have hb := b.toNat_lt
    have hc := c.toNat_lt
    have hv : bits24 [a, b, c] = a.toNat * 65536 + b.toNat * 256 + c.toNat := by simp [bits24]
    obtain ⟨k, ih⟩ := urun_sgs r (out ++ [a, b, c])
    refine ⟨k, ?_⟩
    simp only [sgs, sgn, hv]
    rw [urun_sign _ (Nat.mod_lt _ (by omega)), urun_sign _ (Nat.mod_lt _ (by omega)), urun_sign _ (Nat.mod_lt _ (by omega)), urun_sign _ (Nat.mod_lt _ (by omega)), step0, step6, step4, step2]
    simp only [Nat.mul_zero, Nat.sub_zero, Nat.mul_one]
    rw [byte_of a _ (by omega), byte_of b _ (by omega), byte_of c _ (by omega)]
    have e : out ++ [a] ++ [b] ++ [c] = out ++ [a, b, c] := by simp
    rw [e, ih]
    simp

theorem ub64_b64 (y : List UInt8) : ub64 (b64 y) = some y := by
  obtain ⟨c, hc⟩ := urun_sgs y []
  have hl := sgs_length y
  have ht := trim_pad (sgs y) (pad y.length) (sgs_ne y)
  have hp : pad y.length ≤ 2 := by unfold pad; omega
  unfold ub64
  rw [b64_sgs, ht, if_neg (by rw [List.length_append, List.length_replicate]; omega), hc]
  simp

/-- The other way: what is read is written as it stood. -/
theorem urun_cons {c : UInt8} {r : List UInt8} {s u : U} (h : urun (c :: r) s = some u) : ∃ d, d < 64 ∧ b64Sign d = c ∧ urun r (ustep s d) = some u := by
  rw [urun] at h
  split at h
  · cases h
  · have hb := val64_bound c
    exact ⟨(val64 c).toNat, by omega, sign_of_val64 c (by omega), h⟩
theorem nat_byte (n : Nat) (h : n < 256) : n.toUInt8.toNat = n := by simp; omega
theorem urun_back : ∀ (ds out : List UInt8) (u : U), urun ds ⟨0, 0, out⟩ = some u → u.bits = 0 → ds.length % 4 ≠ 1 → ∃ y, u.out = out ++ y ∧ sgs y = ds
  | [], out, u, h, _, _ => by
    simp [urun] at h
    subst h
    exact ⟨[], by simp, rfl⟩
  | [c1], out, u, h, _, hl => by simp at hl
  | [c1, c2], out, u, h, hb, _ => by
    obtain ⟨d1, b1, e1, h1⟩ := urun_cons h
    obtain ⟨d2, b2, e2, h2⟩ := urun_cons h1
    subst e1 e2
    rw [step0, step6, urun, Option.some.injEq] at h2
    subst h2
    simp only [Nat.zero_mul, Nat.zero_add] at hb
    refine ⟨[((0 * 64 + d1) * 64 + d2) / 16 |>.toUInt8], rfl, ?_⟩
    have ht := nat_byte (((0 * 64 + d1) * 64 + d2) / 16) (by omega)
    have hv : bits24 [(((0 * 64 + d1) * 64 + d2) / 16).toUInt8] = ((0 * 64 + d1) * 64 + d2) / 16 * 65536 := by
      simp only [bits24, List.getD_cons_zero, List.getD_cons_succ, List.getD_nil, ht]; simp
    simp only [sgs, sgn, hv]
    simp only [Nat.mul_zero, Nat.sub_zero, Nat.mul_one]
    rw [show ((0 * 64 + d1) * 64 + d2) / 16 * 65536 / 2 ^ 18 % 64 = d1 from by omega, show ((0 * 64 + d1) * 64 + d2) / 16 * 65536 / 2 ^ (18 - 6) % 64 = d2 from by omega]
  | [c1, c2, c3], out, u, h, hb, _ => by
    obtain ⟨d1, b1, e1, h1⟩ := urun_cons h
    obtain ⟨d2, b2, e2, h2⟩ := urun_cons h1
    obtain ⟨d3, b3, e3, h3⟩ := urun_cons h2
    subst e1 e2 e3
    rw [step0, step6, step4, urun, Option.some.injEq] at h3
    subst h3
    obtain ⟨x, hx⟩ : ∃ x, x = ((0 * 64 + d1) * 64 + d2) / 16 := ⟨_, rfl⟩
    obtain ⟨y, hy⟩ : ∃ y, y = (((0 * 64 + d1) * 64 + d2) % 16 * 64 + d3) / 4 := ⟨_, rfl⟩
    have hb' : (((0 * 64 + d1) * 64 + d2) % 16 * 64 + d3) % 4 = 0 := hb
    rw [← hx, ← hy]
    refine ⟨[x.toUInt8, y.toUInt8], by simp, ?_⟩
    have hv : bits24 [x.toUInt8, y.toUInt8] = x * 65536 + y * 256 := by
      simp only [bits24, List.getD_cons_zero, List.getD_cons_succ, List.getD_nil, nat_byte x (by omega), nat_byte y (by omega)]; simp
    simp only [sgs, sgn, hv]
    simp only [Nat.mul_zero, Nat.sub_zero, Nat.mul_one]
    rw [show (x * 65536 + y * 256) / 2 ^ 18 % 64 = d1 from by omega, show (x * 65536 + y * 256) / 2 ^ (18 - 6) % 64 = d2 from by omega, show (x * 65536 + y * 256) / 2 ^ (18 - 6 * 2) % 64 = d3 from by omega]
  | c1 :: c2 :: c3 :: c4 :: r, out, u, h, hb, hl => by
    obtain ⟨d1, b1, e1, h1⟩ := urun_cons h
    obtain ⟨d2, b2, e2, h2⟩ := urun_cons h1
    obtain ⟨d3, b3, e3, h3⟩ := urun_cons h2
    obtain ⟨d4, b4, e4, h4⟩ := urun_cons h3
    subst e1 e2 e3 e4
    rw [step0, step6, step4, step2] at h4
    obtain ⟨x, hx⟩ : ∃ x, x = ((0 * 64 + d1) * 64 + d2) / 16 := ⟨_, rfl⟩
    obtain ⟨y, hy⟩ : ∃ y, y = (((0 * 64 + d1) * 64 + d2) % 16 * 64 + d3) / 4 := ⟨_, rfl⟩
    obtain ⟨z, hz⟩ : ∃ z, z = (((0 * 64 + d1) * 64 + d2) % 16 * 64 + d3) % 4 * 64 + d4 := ⟨_, rfl⟩
    rw [← hx, ← hy, ← hz] at h4
    obtain ⟨w, hw1, hw2⟩ := urun_back r _ u h4 hb (by simp only [List.length_cons] at hl; omega)
    refine ⟨x.toUInt8 :: y.toUInt8 :: z.toUInt8 :: w, by rw [hw1]; simp, ?_⟩
    have hv : bits24 [x.toUInt8, y.toUInt8, z.toUInt8] = x * 65536 + y * 256 + z := by
      simp only [bits24, List.getD_cons_zero, List.getD_cons_succ, List.getD_nil, nat_byte x (by omega), nat_byte y (by omega), nat_byte z (by omega)]
    simp only [sgs, sgn, hv, hw2]
    simp only [Nat.mul_zero, Nat.sub_zero, Nat.mul_one]
    rw [show (x * 65536 + y * 256 + z) / 2 ^ 18 % 64 = d1 from by omega, show (x * 65536 + y * 256 + z) / 2 ^ (18 - 6) % 64 = d2 from by omega, show (x * 65536 + y * 256 + z) / 2 ^ (18 - 6 * 2) % 64 = d3 from by omega, show (x * 65536 + y * 256 + z) / 2 ^ (18 - 6 * 3) % 64 = d4 from by omega]

theorem b64_ub64 (s y : List UInt8) (h : ub64 s = some y) : b64 y = s := by
  unfold ub64 at h
  split at h
  · cases h
  · rename_i hlen
    split at h
    · cases h
    · rename_i u hu
      split at h
      · cases h
      · rename_i hb
        simp only [Option.some.injEq] at h
        have hs := trim_split s
        have hsl : (Lib.trimRightB s 61).length ≤ s.length := by
          have := congrArg List.length hs
          rw [List.length_append] at this
          omega
        obtain ⟨w, hw1, hw2⟩ := urun_back _ _ u hu (by omega) (by omega)
        rw [List.nil_append] at hw1
        have hy : w = y := by rw [← hw1]; exact h
        subst hy
        have hl := sgs_length w
        rw [hw2] at hl
        have hp : pad w.length ≤ 2 := by unfold pad; omega
        have hpe : pad w.length = s.length - (Lib.trimRightB s 61).length := by omega
        rw [b64_sgs, hw2, hpe]
        exact hs.symm

end Oct
