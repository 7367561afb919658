/-
  Plain mathematics of numbers told by their digits, in any base. No conditions.
-/
set_option linter.unusedVariables false
namespace F5
abbrev M : Nat := 18446744073709551616
def P : Nat := 57896044618658097711785492504343953926634992332820282019728792003956564819949
/-- the first k digits of a number, the lowest first. -/
def digs (b : Nat) : Nat → Nat → List Nat
  | _, 0 => []
  | n, k + 1 => n % b :: digs b (n / b) k
def val (b : Nat) : List Nat → Nat
  | [] => 0
  | x :: l => x + b * val b l
def All (b : Nat) (l : List Nat) : Prop := ∀ x ∈ l, x < b

theorem digs_length (b n k : Nat) : (digs b n k).length = k := by
  induction k generalizing n with
  | zero => rfl
  | succ k ih => simp [digs, ih]
theorem val_digs (b n k : Nat) : val b (digs b n k) = n % b ^ k := by
  induction k generalizing n with
  | zero => simp [digs, val, Nat.mod_one]
  | succ k ih => rw [digs, val, ih, Nat.pow_succ, Nat.mul_comm (b ^ k) b, Nat.mod_mul]
theorem digs_all {b : Nat} (hb : 0 < b) (n k : Nat) : All b (digs b n k) := by
  induction k generalizing n with
  | zero => intro x h; cases h
  | succ k ih =>
    intro x h
    rcases List.mem_cons.1 h with rfl | h
    · exact Nat.mod_lt _ hb
    · exact ih _ x h
theorem All.tail {b x : Nat} {l : List Nat} (h : All b (x :: l)) : All b l := fun y hy => h y (List.mem_cons_of_mem _ hy)
theorem All.head {b x : Nat} {l : List Nat} (h : All b (x :: l)) : x < b := h x List.mem_cons_self
theorem digs_val {b : Nat} (l : List Nat) (h : All b l) : digs b (val b l) l.length = l := by
  induction l with
  | nil => rfl
  | cons x l ih =>
    have hx := h.head
    have hb : 0 < b := by omega
    show (x + b * val b l) % b :: digs b ((x + b * val b l) / b) l.length = _
    rw [Nat.add_mul_mod_self_left, Nat.mod_eq_of_lt hx, Nat.add_mul_div_left _ _ hb, Nat.div_eq_of_lt hx, Nat.zero_add, ih h.tail]
theorem digs_of {b n k : Nat} {l : List Nat} (h : All b l) (hl : l.length = k) (hv : val b l = n) : l = digs b n k := by
  subst hl hv; exact (digs_val l h).symm
theorem digs_getD (b n k i : Nat) (hi : i < k) : (digs b n k).getD i 0 = n / b ^ i % b := by
  induction k generalizing n i with
  | zero => omega
  | succ k ih =>
    cases i with
    | zero => simp [digs]
    | succ i =>
      show (digs b (n / b) k).getD i 0 = _
      rw [ih _ _ (by omega), Nat.div_div_eq_div_mul, Nat.pow_succ, Nat.mul_comm b]
theorem digs_mod (b n k : Nat) : digs b (n % b ^ k) k = digs b n k := by
  rcases Nat.eq_zero_or_pos b with rfl | hb
  · cases k with
    | zero => rfl
    | succ k => rw [Nat.pow_succ, Nat.mul_zero, Nat.mod_zero]
  · exact (digs_of (digs_all hb n k) (digs_length _ _ _) (val_digs b n k)).symm
theorem digs_inj {b n m k : Nat} (h : digs b n k = digs b m k) (hn : n < b ^ k) (hm : m < b ^ k) : n = m := by
  have := congrArg (val b) h
  rwa [val_digs, val_digs, Nat.mod_eq_of_lt hn, Nat.mod_eq_of_lt hm] at this
theorem val_append (b : Nat) (l1 l2 : List Nat) : val b (l1 ++ l2) = val b l1 + b ^ l1.length * val b l2 := by
  induction l1 with
  | nil => simp [val]
  | cons x l ih =>
    show x + b * val b (l ++ l2) = x + b * val b l + b ^ (l.length + 1) * val b l2
    rw [ih, Nat.mul_add, Nat.pow_succ, Nat.mul_comm (b ^ l.length) b, Nat.mul_assoc, Nat.add_assoc]
theorem val_lt {b : Nat} (l : List Nat) (h : All b l) : val b l < b ^ l.length := by
  induction l with
  | nil => simp [val]
  | cons x l ih =>
    have hx := h.head
    have := ih h.tail
    show x + b * val b l < b ^ (l.length + 1)
    rw [Nat.pow_succ, Nat.mul_comm (b ^ l.length) b]
    have h2 : b * (val b l + 1) ≤ b * b ^ l.length := Nat.mul_le_mul_left b this
    rw [Nat.mul_add, Nat.mul_one] at h2
    omega
theorem val_set (b : Nat) (l : List Nat) (i x : Nat) (hi : i < l.length) : val b (l.set i x) + b ^ i * l.getD i 0 = val b l + b ^ i * x := by
  induction l generalizing i with
  | nil => simp at hi
  | cons y l ih =>
    cases i with
    | zero =>
      show x + b * val b l + b ^ 0 * y = y + b * val b l + b ^ 0 * x
      simp; omega
    | succ i =>
      have := ih i (by simpa using hi)
      show y + b * val b (l.set i x) + b ^ (i + 1) * l.getD i 0 = y + b * val b l + b ^ (i + 1) * x
      have h2 := congrArg (b * ·) this
      simp only [Nat.mul_add] at h2
      have e1 : ∀ z, b ^ (i + 1) * z = b * (b ^ i * z) := fun z => by rw [Nat.pow_succ, Nat.mul_comm (b ^ i) b, Nat.mul_assoc]
      rw [e1, e1]
      omega
theorem val_take_succ (b : Nat) (l : List Nat) (i : Nat) (hi : i < l.length) : val b (l.take (i + 1)) = val b (l.take i) + b ^ i * l.getD i 0 := by
  rw [List.take_succ_eq_append_getElem hi, val_append, List.length_take, Nat.min_eq_left (by omega)]
  simp [val, List.getD, List.getElem?_eq_getElem hi]
theorem All.set {b i x : Nat} {l : List Nat} (h : All b l) (hx : x < b) : All b (l.set i x) := by
  intro y hy
  rcases List.mem_or_eq_of_mem_set hy with h1 | h1
  · exact h y h1
  · subst h1; exact hx
theorem All.getD {b : Nat} (hb : 0 < b) {l : List Nat} (h : All b l) (i : Nat) : l.getD i 0 < b := by
  rw [List.getD_eq_getElem?_getD]
  cases hg : l[i]? with
  | none => simpa using hb
  | some x => exact h x (List.mem_of_getElem? hg)
theorem getD_set_ne (l : List Nat) {i j : Nat} (x : Nat) (h : i ≠ j) : (l.set i x).getD j 0 = l.getD j 0 := by
  simp [List.getD, List.getElem?_set_ne h]
theorem getD_set_eq (l : List Nat) {i : Nat} (x : Nat) (h : i < l.length) : (l.set i x).getD i 0 = x := by
  simp [List.getD, List.getElem?_set_self h]
theorem All.append {b : Nat} {l1 l2 : List Nat} (h1 : All b l1) (h2 : All b l2) : All b (l1 ++ l2) := fun x hx => by
  rcases List.mem_append.1 hx with h | h
  · exact h1 x h
  · exact h2 x h

/-- Digit by digit: the first k of L are done, the others are A's; c is carried; X is what was added so far. -/
def Part (b : Nat) (A : List Nat) (k : Nat) (L : List Nat) (c X : Nat) : Prop :=
  L.length = A.length ∧ All b L ∧ (∀ j, k ≤ j → L.getD j 0 = A.getD j 0) ∧ val b L + b ^ k * c = val b A + X
theorem Part.zero {b : Nat} {A : List Nat} (h : All b A) : Part b A 0 A 0 0 := ⟨rfl, h, fun _ _ => rfl, by simp⟩
theorem Part.next {b k c c' r y X : Nat} {A L : List Nat} (h : Part b A k L c X) (hk : k < A.length) (hr : r < b) (he : r + b * c' = A.getD k 0 + y + c) : Part b A (k + 1) (L.set k r) c' (X + b ^ k * y) := by
  obtain ⟨h1, h2, h3, h4⟩ := h
  refine ⟨by simpa using h1, h2.set hr, fun j hj => by rw [getD_set_ne _ _ (by omega), h3 j (by omega)], ?_⟩
  have hs := val_set b L k r (by omega)
  rw [h3 k (Nat.le_refl _)] at hs
  have e := congrArg (b ^ k * ·) he
  simp only [Nat.mul_add] at e
  rw [Nat.pow_succ, Nat.mul_assoc]
  omega
/-- The same, taken away. -/
def Less (b : Nat) (A : List Nat) (k : Nat) (L : List Nat) (c X : Nat) : Prop :=
  L.length = A.length ∧ All b L ∧ (∀ j, k ≤ j → L.getD j 0 = A.getD j 0) ∧ val b L + X = val b A + b ^ k * c
theorem Less.zero {b : Nat} {A : List Nat} (h : All b A) : Less b A 0 A 0 0 := ⟨rfl, h, fun _ _ => rfl, by simp⟩
theorem Less.next {b k c c' r y X : Nat} {A L : List Nat} (h : Less b A k L c X) (hk : k < A.length) (hr : r < b) (he : r + y + c = A.getD k 0 + b * c') : Less b A (k + 1) (L.set k r) c' (X + b ^ k * y) := by
  obtain ⟨h1, h2, h3, h4⟩ := h
  refine ⟨by simpa using h1, h2.set hr, fun j hj => by rw [getD_set_ne _ _ (by omega), h3 j (by omega)], ?_⟩
  have hs := val_set b L k r (by omega)
  rw [h3 k (Nat.le_refl _)] at hs
  have e := congrArg (b ^ k * ·) he
  simp only [Nat.mul_add] at e
  rw [Nat.pow_succ, Nat.mul_assoc]
  omega
end F5
