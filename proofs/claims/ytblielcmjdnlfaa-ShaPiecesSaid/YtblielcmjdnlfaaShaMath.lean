/-
  SHA-512 as plain mathematics over natural numbers: the turns, the rounds, the words, the sum; and the primes' roots. No conditions.
-/
set_option linter.unusedVariables false
namespace Sha5

def M : Nat := 18446744073709551616

def rot (x n : Nat) : Nat := x / 2 ^ n + x % 2 ^ n * 2 ^ (64 - n)
def S0 (x : Nat) : Nat := rot x 28 ^^^ rot x 34 ^^^ rot x 39
def S1 (x : Nat) : Nat := rot x 14 ^^^ rot x 18 ^^^ rot x 41
def s0 (x : Nat) : Nat := rot x 1 ^^^ rot x 8 ^^^ x / 2 ^ 7
def s1 (x : Nat) : Nat := rot x 19 ^^^ rot x 61 ^^^ x / 2 ^ 6
def ch (e f g : Nat) : Nat := (e &&& f) ||| ((M - 1 - e) &&& g)
def maj (a b c : Nat) : Nat := (a &&& b) ||| (a &&& c) ||| (b &&& c)

theorem two_split (n : Nat) (hn : n ≤ 64) : 2 ^ n * 2 ^ (64 - n) = M := by
  rw [← Nat.pow_add, show n + (64 - n) = 64 by omega]; rfl

theorem rot_lt {x n : Nat} (hx : x < M) (hn : n ≤ 64) : rot x n < M := by
  unfold rot
  have h := two_split n hn
  have hp : 0 < 2 ^ n := Nat.two_pow_pos n
  have h1 : x / 2 ^ n < 2 ^ (64 - n) := by
    rw [Nat.div_lt_iff_lt_mul hp, Nat.mul_comm, h]; exact hx
  have h2 : x % 2 ^ n + 1 ≤ 2 ^ n := Nat.mod_lt _ hp
  calc x / 2 ^ n + x % 2 ^ n * 2 ^ (64 - n) < 2 ^ (64 - n) + x % 2 ^ n * 2 ^ (64 - n) := by omega
    _ = (x % 2 ^ n + 1) * 2 ^ (64 - n) := by rw [Nat.add_mul, Nat.one_mul, Nat.add_comm]
    _ ≤ 2 ^ n * 2 ^ (64 - n) := Nat.mul_le_mul_right _ h2
    _ = M := h

theorem shl_mod (x n : Nat) (hn : n ≤ 64) : x * 2 ^ (64 - n) % M = x % 2 ^ n * 2 ^ (64 - n) := by
  rw [← two_split n hn, Nat.mul_mod_mul_right]

theorem rot_add (x n : Nat) (hn : n ≤ 64) : x / 2 ^ n + x * 2 ^ (64 - n) % M = rot x n := by
  rw [shl_mod x n hn]; rfl

theorem rot_or (x n : Nat) (hx : x < M) (hn : n ≤ 64) : (x * 2 ^ (64 - n) % M) ||| (x / 2 ^ n) = rot x n := by
  rw [shl_mod x n hn]
  unfold rot
  have hp : 0 < 2 ^ n := Nat.two_pow_pos n
  have h1 : x / 2 ^ n < 2 ^ (64 - n) := by
    rw [Nat.div_lt_iff_lt_mul hp, Nat.mul_comm, two_split n hn]; exact hx
  rw [Nat.mul_comm, ← Nat.two_pow_add_eq_or_of_lt h1, Nat.add_comm]

theorem M_eq : M = 2 ^ 64 := rfl
theorem xor_lt {a b : Nat} (ha : a < M) (hb : b < M) : a ^^^ b < M := Nat.xor_lt_two_pow (n := 64) ha hb
theorem or_lt {a b : Nat} (ha : a < M) (hb : b < M) : a ||| b < M := Nat.or_lt_two_pow (n := 64) ha hb
theorem and_lt {a b : Nat} (hb : b < M) : a &&& b < M := Nat.and_lt_two_pow (n := 64) _ hb
theorem shr_lt {a : Nat} (n : Nat) (ha : a < M) : a / 2 ^ n < M := Nat.lt_of_le_of_lt (Nat.div_le_self _ _) ha
theorem S0_lt {x : Nat} (hx : x < M) : S0 x < M := xor_lt (xor_lt (rot_lt hx (by omega)) (rot_lt hx (by omega))) (rot_lt hx (by omega))
theorem S1_lt {x : Nat} (hx : x < M) : S1 x < M := xor_lt (xor_lt (rot_lt hx (by omega)) (rot_lt hx (by omega))) (rot_lt hx (by omega))
theorem s0_lt {x : Nat} (hx : x < M) : s0 x < M := xor_lt (xor_lt (rot_lt hx (by omega)) (rot_lt hx (by omega))) (shr_lt _ hx)
theorem s1_lt {x : Nat} (hx : x < M) : s1 x < M := xor_lt (xor_lt (rot_lt hx (by omega)) (rot_lt hx (by omega))) (shr_lt _ hx)
theorem not_lt_ {e : Nat} : M - 1 - e < M := by unfold M; omega
theorem ch_lt {e f g : Nat} (hf : f < M) (hg : g < M) : ch e f g < M := or_lt (and_lt hf) (and_lt hg)
theorem maj_lt {a b c : Nat} (hb : b < M) (hc : c < M) : maj a b c < M := or_lt (or_lt (and_lt hb) (and_lt hc)) (and_lt hc)

/-- the other spelling of the choice. -/
theorem not_bit (e i : Nat) (he : e < M) : (M - 1 - e).testBit i = (decide (i < 64) && !e.testBit i) := by
  have h := Nat.testBit_two_pow_sub_succ (n := 64) (x := e) he i
  have e1 : M - 1 - e = 2 ^ 64 - (e + 1) := by rw [M_eq]; omega
  rw [e1, h]
theorem xor_ones (e : Nat) (he : e < M) : e ^^^ (M - 1) = M - 1 - e := by
  apply Nat.eq_of_testBit_eq
  intro i
  have hm : (M - 1).testBit i = decide (i < 64) := by rw [M_eq]; exact Nat.testBit_two_pow_sub_one 64 i
  rw [Nat.testBit_xor, not_bit e i he, hm]
  by_cases hi : i < 64
  · simp [hi]
  · have h0 : e.testBit i = false := Nat.testBit_lt_two_pow (Nat.lt_of_lt_of_le he (by rw [M_eq]; exact Nat.pow_le_pow_right (by omega) (by omega)))
    simp [hi, h0]
theorem ch_xor (e f g : Nat) (he : e < M) (hf : f < M) : (e &&& f) ^^^ ((e ^^^ (M - 1)) &&& g) = ch e f g := by
  rw [xor_ones e he]
  unfold ch
  apply Nat.eq_of_testBit_eq
  intro i
  simp only [Nat.testBit_xor, Nat.testBit_or, Nat.testBit_and, not_bit e i he]
  cases e.testBit i <;> cases f.testBit i <;> cases g.testBit i <;> cases decide (i < 64) <;> rfl
theorem maj_xor (a b c : Nat) : (a &&& b) ^^^ (a &&& c) ^^^ (b &&& c) = maj a b c := by
  unfold maj
  apply Nat.eq_of_testBit_eq
  intro i
  simp only [Nat.testBit_xor, Nat.testBit_or, Nat.testBit_and]
  cases a.testBit i <;> cases b.testBit i <;> cases c.testBit i <;> rfl

structure St where
  a : Nat
  b : Nat
  c : Nat
  d : Nat
  e : Nat
  f : Nat
  g : Nat
  h : Nat

def St.ok (s : St) : Prop := s.a < M ∧ s.b < M ∧ s.c < M ∧ s.d < M ∧ s.e < M ∧ s.f < M ∧ s.g < M ∧ s.h < M
def St.list (s : St) : List Nat := [s.a, s.b, s.c, s.d, s.e, s.f, s.g, s.h]

def t1 (s : St) (k w : Nat) : Nat := (s.h + S1 s.e + ch s.e s.f s.g + k + w) % M
def t2 (s : St) : Nat := (S0 s.a + maj s.a s.b s.c) % M
def round (s : St) (k w : Nat) : St := ⟨(t1 s k w + t2 s) % M, s.a, s.b, s.c, (s.d + t1 s k w) % M, s.e, s.f, s.g⟩
theorem round_ok {s : St} (k w : Nat) (h : s.ok) : (round s k w).ok := by
  obtain ⟨h1, h2, h3, h4, h5, h6, h7, h8⟩ := h
  exact ⟨Nat.mod_lt _ (by decide), h1, h2, h3, Nat.mod_lt _ (by decide), h5, h6, h7⟩

/-- the first n rounds. -/
def rounds (K W : List Nat) (s : St) : Nat → St
  | 0 => s
  | n + 1 => round (rounds K W s n) (K.getD n 0) (W.getD n 0)
theorem rounds_ok {K W : List Nat} {s : St} (h : s.ok) : ∀ n, (rounds K W s n).ok
  | 0 => h
  | n + 1 => round_ok _ _ (rounds_ok h n)

def addSt (s v : St) : St := ⟨(s.a + v.a) % M, (s.b + v.b) % M, (s.c + v.c) % M, (s.d + v.d) % M, (s.e + v.e) % M, (s.f + v.f) % M, (s.g + v.g) % M, (s.h + v.h) % M⟩
theorem addSt_ok (s v : St) : (addSt s v).ok := by
  unfold addSt St.ok
  refine ⟨?_, ?_, ?_, ?_, ?_, ?_, ?_, ?_⟩ <;> exact Nat.mod_lt _ (by decide)

/-- a word of bytes, the highest first, its first n bytes. -/
def wordOf (l : List UInt8) : Nat := l.foldl (fun x b => (256 * x + b.toNat) % M) 0
/-- the first 16 words of a block. -/
def firstW (b : List UInt8) : List Nat := (List.range 16).map fun t => wordOf ((b.drop (8 * t)).take 8)
def nextW (l : List Nat) (t : Nat) : Nat := (s1 (l.getD (t - 2) 0) + l.getD (t - 7) 0 + s0 (l.getD (t - 15) 0) + l.getD (t - 16) 0) % M
/-- the words that are told after n more. -/
def schedN (b : List UInt8) : Nat → List Nat
  | 0 => firstW b
  | n + 1 => schedN b n ++ [nextW (schedN b n) (16 + n)]
theorem schedN_length (b : List UInt8) : ∀ n, (schedN b n).length = 16 + n
  | 0 => by simp [schedN, firstW]
  | n + 1 => by simp [schedN, schedN_length b n]; omega
def sched (b : List UInt8) : List Nat := schedN b 64

def stir (K : List Nat) (s : St) (b : List UInt8) : St := addSt s (rounds K (sched b) s 80)

/-- the words behind the first n blocks of l. -/
def blocks (K : List Nat) (s : St) (l : List UInt8) : Nat → St
  | 0 => s
  | n + 1 => stir K (blocks K s l n) ((l.drop (128 * n)).take 128)
theorem blocks_ok {K : List Nat} {s : St} {l : List UInt8} (h : s.ok) : ∀ n, (blocks K s l n).ok
  | 0 => h
  | n + 1 => addSt_ok _ _
theorem blocks_append (K : List Nat) (s : St) (l l' : List UInt8) : ∀ n, 128 * n ≤ l.length → blocks K s (l ++ l') n = blocks K s l n
  | 0, _ => rfl
  | n + 1, h => by
    unfold blocks
    rw [blocks_append K s l l' n (by omega), List.drop_append_of_le_length (by omega), List.take_append_of_le_length (by simp; omega)]

/-- what is filled up. -/
def zerosN (n : Nat) : Nat := (239 - n % 128) % 128
def byteOf (x i : Nat) : UInt8 := UInt8.ofNat (x / 2 ^ (56 - 8 * i) % 256)
def wordBytes (x : Nat) : List UInt8 := (List.range 8).map (byteOf x)
def filled (l : List UInt8) : List UInt8 :=
  l ++ 128 :: (List.replicate (zerosN l.length) 0 ++ (wordBytes (8 * l.length / M) ++ wordBytes (8 * l.length % M)))
def sumWith (K : List Nat) (s : St) (l : List UInt8) : List UInt8 := (blocks K s (filled l) ((filled l).length / 128)).list.flatMap wordBytes

end Sha5
