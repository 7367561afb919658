/-
  Plain mathematics of the reference's numbers modulo L: digits of 16 bits, compared, taken off, doubled; bytes as digits; products. No conditions.
-/
import Derived.Test.YtebnkbeejkopaaaDoorFldOpsM
set_option linter.unusedVariables false
namespace F5

/-- the order. -/
def LL : Nat := 7237005577332262213973186563042994240857116359379907606001950938285454250989
theorem LL_pos : 0 < LL := by decide
theorem LL_lt : LL < 2 ^ 253 := by decide
theorem LL_digs : digs B LL 16 = [54253, 23797, 25370, 22546, 40150, 41719, 63966, 5342, 0, 0, 0, 0, 0, 0, 0, 4096] := by decide +kernel
theorem LL_digs17 : digs B LL 17 = [54253, 23797, 25370, 22546, 40150, 41719, 63966, 5342, 0, 0, 0, 0, 0, 0, 0, 4096, 0] := by decide +kernel

theorem val_split (b : Nat) (l : List Nat) (i : Nat) (hi : i < l.length) : val b l = val b (l.take i) + b ^ i * l.getD i 0 + b ^ (i + 1) * val b (l.drop (i + 1)) := by
  have h : val b l = val b (l.take (i + 1)) + b ^ (i + 1) * val b (l.drop (i + 1)) := by
    conv => lhs; rw [← List.take_append_drop (i + 1) l, val_append, List.length_take, Nat.min_eq_left (by omega)]
  rw [h, val_take_succ b l i hi]
theorem All.take {b : Nat} {l : List Nat} (h : All b l) (i : Nat) : All b (l.take i) := fun x hx => h x (List.mem_of_mem_take hx)
theorem drop_eq {a b : List Nat} {n i : Nat} (la : a.length = n) (lb : b.length = n) (h : ∀ j, i ≤ j → j < n → a.getD j 0 = b.getD j 0) : a.drop i = b.drop i := by
  apply List.ext_getElem?
  intro k
  rw [List.getElem?_drop, List.getElem?_drop]
  by_cases hk : i + k < n
  · have := h (i + k) (by omega) hk
    rw [List.getD_eq_getElem?_getD, List.getD_eq_getElem?_getD, List.getElem?_eq_getElem (by omega), List.getElem?_eq_getElem (by omega)] at this
    rw [List.getElem?_eq_getElem (by omega), List.getElem?_eq_getElem (by omega)]
    simpa using this
  · rw [List.getElem?_eq_none (by omega), List.getElem?_eq_none (by omega)]
/-- the first digit from above that differs tells which number is the smaller one. -/
theorem below_step {a b : List Nat} {n i : Nat} (ha : All B a) (hb : All B b) (la : a.length = n) (lb : b.length = n) (hi : i < n) (heq : ∀ j, i < j → j < n → a.getD j 0 = b.getD j 0)
    (hne : a.getD i 0 ≠ b.getD i 0) : (val B a < val B b) = (a.getD i 0 < b.getD i 0) := by
  have hd := drop_eq (i := i + 1) la lb fun j h1 h2 => heq j (by omega) h2
  have e1 := val_split B a i (by omega)
  have e2 := val_split B b i (by omega)
  rw [hd] at e1
  have l1 := val_lt _ (ha.take i)
  have l2 := val_lt _ (hb.take i)
  rw [List.length_take, Nat.min_eq_left (by omega)] at l1 l2
  generalize val B (a.take i) = ta at *
  generalize val B (b.take i) = tb at *
  generalize B ^ (i + 1) * val B (b.drop (i + 1)) = R at *
  generalize a.getD i 0 = x at *
  generalize b.getD i 0 = y at *
  generalize B ^ i = m at *
  rw [e1, e2]
  rcases Nat.lt_or_gt_of_ne hne with h | h
  · have := Nat.mul_le_mul_left m h
    rw [Nat.mul_succ] at this
    exact propext ⟨fun _ => h, fun _ => by omega⟩
  · have := Nat.mul_le_mul_left m h
    rw [Nat.mul_succ] at this
    exact propext ⟨fun h2 => by omega, fun h2 => by omega⟩
theorem below_same {a b : List Nat} {n : Nat} (la : a.length = n) (lb : b.length = n) (heq : ∀ j, j < n → a.getD j 0 = b.getD j 0) : ¬ val B a < val B b := by
  have := drop_eq (i := 0) la lb fun j _ h => heq j h
  rw [List.drop_zero, List.drop_zero] at this
  rw [this]; omega

/-- of a number less another one the first k digits. -/
structure OffL (a b : List Nat) (k c : Nat) (out : List Nat) : Prop where
  len : out.length = k
  all : All B out
  bw : c ≤ 1
  eq : val B out + val B (b.take k) = val B (a.take k) + B ^ k * c
theorem OffL.zero (a b : List Nat) : OffL a b 0 0 [] := ⟨rfl, fun _ h => by (cases h), by omega, by simp [val]⟩
theorem val_snoc' (b : Nat) (l : List Nat) (x : Nat) : val b (l ++ [x]) = val b l + b ^ l.length * x := by rw [val_append]; simp [val]
theorem OffL.next {a b out : List Nat} {k c n : Nat} (h : OffL a b k c out) (ha : All B a) (hb : All B b) (la : k < a.length) (lb : k < b.length) (hn : n + b.getD k 0 + c = 65536 + a.getD k 0) :
    OffL a b (k + 1) (1 - n / 65536) (out ++ [n % 65536]) := by
  obtain ⟨h1, h2, h3, h4⟩ := h
  have hx := ha.getD (by decide) k
  have hy := hb.getD (by decide) k
  refine ⟨by simp [h1], h2.append fun x hx => by rw [List.mem_singleton.1 hx]; exact Nat.mod_lt _ (by decide), by omega, ?_⟩
  rw [val_snoc', h1, val_take_succ B b k lb, val_take_succ B a k la, Nat.pow_succ]
  generalize a.getD k 0 = x at *
  generalize b.getD k 0 = y at *
  have e : n % 65536 + y + c = x + 65536 * (1 - n / 65536) := by unfold B at hx hy; omega
  have e2 := congrArg (B ^ k * ·) e
  simp only [Nat.mul_add] at e2
  rw [Nat.mul_assoc, show B * (1 - n / 65536) = 65536 * (1 - n / 65536) from rfl]
  omega
theorem OffL.done {a b out : List Nat} {n c : Nat} (h : OffL a b n c out) (la : a.length = n) (lb : b.length = n) (hle : val B b ≤ val B a) : out = digs B (val B a - val B b) n := by
  obtain ⟨h1, h2, h3, h4⟩ := h
  rw [List.take_of_length_le (by omega), List.take_of_length_le (by omega)] at h4
  have hl := val_lt _ h2
  rw [h1] at hl
  refine digs_of h2 h1 ?_
  rcases (show c = 0 ∨ c = 1 by omega) with rfl | rfl
  · omega
  · omega

/-- twice a number, and a bit: the first k digits. -/
structure DblL (r : List Nat) (c0 k c : Nat) (out : List Nat) : Prop where
  len : out.length = k
  all : All B out
  cw : c ≤ 1
  eq : val B out + B ^ k * c = 2 * val B (r.take k) + c0
theorem DblL.zero (r : List Nat) {c0 : Nat} (h : c0 ≤ 1) : DblL r c0 0 c0 [] := ⟨rfl, fun _ h => by (cases h), h, by simp [val]⟩
theorem DblL.next {r out : List Nat} {c0 k c x : Nat} (h : DblL r c0 k c out) (hr : All B r) (hk : k < r.length) (hx : x = 2 * r.getD k 0 + c) : DblL r c0 (k + 1) (x / 65536) (out ++ [x % 65536]) := by
  obtain ⟨h1, h2, h3, h4⟩ := h
  have hy := hr.getD (by decide) k
  refine ⟨by simp [h1], h2.append fun x hx => by rw [List.mem_singleton.1 hx]; exact Nat.mod_lt _ (by decide), by unfold B at hy; omega, ?_⟩
  rw [val_snoc', h1, val_take_succ B r k hk, Nat.pow_succ]
  generalize r.getD k 0 = y at *
  have e : x % 65536 + 65536 * (x / 65536) = 2 * y + c := by rw [← hx]; exact Nat.mod_add_div _ _
  have e2 := congrArg (B ^ k * ·) e
  simp only [Nat.mul_add] at e2
  rw [Nat.mul_assoc, show B * (x / 65536) = 65536 * (x / 65536) from rfl, Nat.mul_add, Nat.mul_left_comm 2]
  omega
theorem DblL.done {r out : List Nat} {c0 n c : Nat} (h : DblL r c0 n c out) (hr : r.length = n) (hl : 2 * val B r + c0 < B ^ n) : out = digs B (2 * val B r + c0) n := by
  obtain ⟨h1, h2, h3, h4⟩ := h
  rw [List.take_of_length_le (by omega)] at h4
  refine digs_of h2 h1 ?_
  rcases (show c = 0 ∨ c = 1 by omega) with rfl | rfl
  · omega
  · omega

/-- the rest, bit by bit from above. -/
theorem rest_step {v c : Nat} (hv : v < LL) (hc : c ≤ 1) : (2 * v + c) % LL = if 2 * v + c < LL then 2 * v + c else 2 * v + c - LL := by
  split
  · rename_i h; exact Nat.mod_eq_of_lt h
  · rename_i h
    rw [Nat.mod_eq_sub_mod (by omega), Nat.mod_eq_of_lt (by omega)]
theorem rest_next (D m : Nat) : D / 2 ^ m % LL = (2 * (D / 2 ^ (m + 1) % LL) + D / 2 ^ m % 2) % LL := by
  have h : D / 2 ^ m = 2 * (D / 2 ^ (m + 1)) + D / 2 ^ m % 2 := by
    rw [Nat.pow_succ, ← Nat.div_div_eq_div_mul]; omega
  conv => lhs; rw [h]
  rw [Nat.add_mod, Nat.mul_mod, Nat.add_mod (2 * _), Nat.mul_mod 2 (_ % LL), Nat.mod_mod]
theorem bit_at {d : List Nat} (hd : All B d) {i j : Nat} (hi : i < d.length) (hj : j < 16) : d.getD i 0 / 2 ^ j % 2 = val B d / 2 ^ (16 * i + j) % 2 := by
  have e : d = digs B (val B d) d.length := digs_of hd rfl rfl
  have e2 : d.getD i 0 = val B d / B ^ i % B := by
    conv => lhs; rw [e]
    exact digs_getD _ _ _ _ hi
  have e3 : 2 ^ (16 * i + j) = B ^ i * 2 ^ j := by rw [Nat.pow_add, Nat.pow_mul]
  rw [e2, e3, ← Nat.div_div_eq_div_mul]
  generalize val B d / B ^ i = x
  have e4 : B = 2 ^ j * 2 ^ (16 - j) := by rw [← Nat.pow_add, show j + (16 - j) = 16 by omega]
  rw [e4, Nat.mod_mul, Nat.add_mul_div_left _ _ (Nat.two_pow_pos j), Nat.div_eq_of_lt (Nat.mod_lt _ (Nat.two_pow_pos j)), Nat.zero_add]
  exact Nat.mod_mod_of_dvd _ ⟨2 ^ (15 - j), by rw [← Nat.pow_succ', show (15 - j).succ = 16 - j by omega]⟩
theorem rest_top {d : List Nat} (hd : All B d) : val B d / 2 ^ (16 * d.length) = 0 := by
  have := val_lt _ hd
  exact Nat.div_eq_of_lt (by rw [Nat.pow_mul]; exact this)

/-- bytes' number, the lowest first. -/
def bval (l : List UInt8) : Nat := val 256 (l.map UInt8.toNat)
theorem bytes_all (l : List UInt8) : All 256 (l.map UInt8.toNat) := by
  intro x hx
  obtain ⟨c, _, rfl⟩ := List.mem_map.1 hx
  exact c.toNat_lt
theorem bval_lt (l : List UInt8) : bval l < 256 ^ l.length := by
  have := val_lt _ (bytes_all l)
  rwa [List.length_map] at this
/-- digits of 16 bits, two bytes each. -/
structure DigL (l : List UInt8) (k : Nat) (out : List Nat) : Prop where
  len : out.length = k
  all : All B out
  eq : val B out = bval (l.take (2 * k))
theorem DigL.zero (l : List UInt8) : DigL l 0 [] := ⟨rfl, fun _ h => by (cases h), by simp [val, bval]⟩
theorem pow256 (k : Nat) : (256 : Nat) ^ (2 * k) = B ^ k := by rw [Nat.pow_mul]
theorem bval_take (l : List UInt8) (i : Nat) (hi : i < l.length) : bval (l.take (i + 1)) = bval (l.take i) + 256 ^ i * (l.getD i 0).toNat := by
  have h := val_take_succ 256 (l.map UInt8.toNat) i (by rw [List.length_map]; exact hi)
  rw [← List.map_take, ← List.map_take] at h
  unfold bval
  rw [h]
  congr 2
  simp [List.getD_eq_getElem?_getD, List.getElem?_eq_getElem hi]
theorem DigL.two {l : List UInt8} {k : Nat} {out : List Nat} (h : DigL l k out) (hk : 2 * k + 1 < l.length) : DigL l (k + 1) (out ++ [(l.getD (2 * k) 0).toNat + 256 * (l.getD (2 * k + 1) 0).toNat]) := by
  obtain ⟨h1, h2, h3⟩ := h
  have hx := (l.getD (2 * k) 0).toNat_lt
  have hy := (l.getD (2 * k + 1) 0).toNat_lt
  refine ⟨by simp [h1], h2.append fun x hx => by rw [List.mem_singleton.1 hx]; unfold B; omega, ?_⟩
  rw [val_snoc', h1, h3, show 2 * (k + 1) = 2 * k + 1 + 1 by omega, bval_take l (2 * k + 1) hk, bval_take l (2 * k) (by omega), Nat.pow_succ, pow256, Nat.mul_add, Nat.mul_assoc]
  omega
theorem DigL.one {l : List UInt8} {k : Nat} {out : List Nat} (h : DigL l k out) (hk : 2 * k + 1 = l.length) : DigL l (k + 1) (out ++ [(l.getD (2 * k) 0).toNat]) := by
  obtain ⟨h1, h2, h3⟩ := h
  have hx := (l.getD (2 * k) 0).toNat_lt
  refine ⟨by simp [h1], h2.append fun x hx => by rw [List.mem_singleton.1 hx]; unfold B; omega, ?_⟩
  have e : bval (l.take (2 * (k + 1))) = bval (l.take (2 * k + 1)) := by rw [List.take_of_length_le (by omega), List.take_of_length_le (by omega)]
  rw [val_snoc', h1, h3, e, bval_take l (2 * k) (by omega), pow256]
theorem DigL.done {l : List UInt8} {k : Nat} {out : List Nat} (h : DigL l k out) (hk : l.length ≤ 2 * k) : val B out = bval l := by rw [h.eq, List.take_of_length_le hk]

/-- the product and a third number: the first i digits of x and z are done, and of the next one the first k of y. -/
def MulZ (x y z i k e : Nat) (L : List Nat) : Prop :=
  L.length = 34 ∧ (∀ j, L.getD j 0 ≤ (16 * i + k) * 4294836225 + (i + e) * 65535) ∧ val B L = z % B ^ (i + e) + x % B ^ i * y + B ^ i * ((x / B ^ i % B) * (y % B ^ k))
theorem MulZ.zero {x y z : Nat} : MulZ x y z 0 0 0 (List.replicate 34 0) := by
  refine ⟨List.length_replicate, fun j => ?_, ?_⟩
  · rw [List.getD_eq_getElem?_getD, List.getElem?_replicate]; split <;> exact Nat.zero_le _
  · rw [val_zeros]; simp [Nat.mod_one]
theorem MulZ.add {x y z i : Nat} {L : List Nat} (h : MulZ x y z i 0 0 L) (hi : i < 16) : MulZ x y z i 0 1 (L.set i (L.getD i 0 + z / B ^ i % B)) := by
  obtain ⟨h1, h2, h4⟩ := h
  have hzl : z / B ^ i % B ≤ 65535 := Nat.le_of_lt_succ (lim_lt z i)
  refine ⟨by simpa using h1, fun j => ?_, ?_⟩
  · have h2j := h2 j
    clear h4
    generalize z / B ^ i % B = q at *
    by_cases e : i = j
    · subst e
      rw [getD_set_eq _ _ (by omega)]
      omega
    · rw [getD_set_ne _ _ e]; clear e h2; exact Nat.le_trans h2j (by omega)
  · have hs := val_set B L i (L.getD i 0 + z / B ^ i % B) (by omega)
    rw [Nat.mul_add] at hs
    rw [Nat.add_zero] at h4
    rw [mod_next z]
    omega
theorem MulZ.next {x y z i k : Nat} {L : List Nat} (h : MulZ x y z i k 1 L) (hi : i < 16) (hk : k < 16) : MulZ x y z i (k + 1) 1 (L.set (i + k) (L.getD (i + k) 0 + (x / B ^ i % B) * (y / B ^ k % B))) := by
  obtain ⟨h1, h2, h4⟩ := h
  have hxl := lim_lt x i
  have hyl := lim_lt y k
  have hp : (x / B ^ i % B) * (y / B ^ k % B) ≤ 65535 * 65535 := Nat.mul_le_mul (by unfold B at *; omega) (by unfold B at *; omega)
  refine ⟨by simpa using h1, fun j => ?_, ?_⟩
  · have h2j := h2 j
    clear h4
    generalize (x / B ^ i % B) * (y / B ^ k % B) = q at *
    clear hxl hyl
    by_cases e : i + k = j
    · subst e
      rw [getD_set_eq _ _ (by omega)]
      omega
    · rw [getD_set_ne _ _ e]; clear e hp h2; exact Nat.le_trans h2j (by omega)
  · have hs := val_set B L (i + k) (L.getD (i + k) 0 + (x / B ^ i % B) * (y / B ^ k % B)) (by omega)
    rw [mod_next y, Nat.mul_add, Nat.mul_add]
    rw [Nat.mul_add] at hs
    have e : B ^ i * (x / B ^ i % B * (B ^ k * (y / B ^ k % B))) = B ^ (i + k) * (x / B ^ i % B * (y / B ^ k % B)) := by
      rw [Nat.pow_add]; simp only [Nat.mul_assoc, Nat.mul_left_comm]
    rw [e]
    omega
theorem MulZ.row {x y z i : Nat} {L : List Nat} (h : MulZ x y z i 16 1 L) (hy : y < 2 ^ 256) : MulZ x y z (i + 1) 0 0 L := by
  obtain ⟨h1, h2, h4⟩ := h
  refine ⟨h1, fun j => by have := h2 j; omega, ?_⟩
  rw [h4, mod_full hy, mod_next x, Nat.add_mul, Nat.pow_zero, Nat.mod_one, Nat.mul_zero, Nat.mul_zero, Nat.add_zero, Nat.add_zero, Nat.mul_assoc]
  omega
theorem MulZ.done {x y z : Nat} {L : List Nat} (h : MulZ x y z 16 0 0 L) (hx : x < 2 ^ 256) (hz : z < 2 ^ 256) : L.length = 34 ∧ (∀ j, L.getD j 0 ≤ 1099511627776) ∧ val B L = x * y + z := by
  obtain ⟨h1, h2, h4⟩ := h
  refine ⟨h1, fun j => by have := h2 j; omega, ?_⟩
  rw [h4, Nat.add_zero, mod_full hx, mod_full hz, Nat.pow_zero, Nat.mod_one, Nat.mul_zero, Nat.mul_zero]
  omega
theorem Pass.full {A L : List Nat} {c n : Nat} (h : Pass A n L c) (hA : A.length = n) (hv : val B A < B ^ n) : All B L ∧ val B L = val B A := by
  have ha : All B L := by
    intro x hx
    obtain ⟨j, hj, rfl⟩ := List.getElem_of_mem hx
    have := h.2.1 j (by have := h.1; omega)
    rw [List.getD_eq_getElem?_getD, List.getElem?_eq_getElem hj] at this
    exact this
  refine ⟨ha, ?_⟩
  have h4 := h.2.2.2
  have hc : c = 0 := by
    rcases Nat.eq_zero_or_pos c with h0 | h0
    · exact h0
    · have := Nat.mul_le_mul_left (B ^ n) h0
      omega
  subst hc
  omega
end F5
