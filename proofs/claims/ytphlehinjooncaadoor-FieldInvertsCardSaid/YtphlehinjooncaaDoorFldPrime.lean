/-
  Numbers modulo a prime: Fermat's theorem, and that 2^255 - 19 is prime. No conditions.
-/
import Derived.Test.YtphlehinjooncaaDoorFldMath
set_option linter.unusedVariables false
namespace F5

def Prime (p : Nat) : Prop := 2 ≤ p ∧ ∀ m, m ∣ p → m = 1 ∨ m = p

theorem Prime.coprime {p : Nat} (hp : Prime p) {a : Nat} (h : ¬ p ∣ a) : Nat.Coprime p a := by
  rcases hp.2 (Nat.gcd p a) (Nat.gcd_dvd_left p a) with h1 | h1
  · exact h1
  · exact absurd (h1 ▸ Nat.gcd_dvd_right p a) h
theorem Prime.dvd_mul {p : Nat} (hp : Prime p) {a b : Nat} (h : p ∣ a * b) : p ∣ a ∨ p ∣ b := by
  by_cases ha : p ∣ a
  · exact .inl ha
  · exact .inr ((hp.coprime ha).dvd_of_dvd_mul_left h)

theorem mod_eq_sub {a b p : Nat} (h : a ≤ b) : a % p = b % p ↔ p ∣ b - a := by
  constructor
  · intro e
    have h1 := Nat.div_add_mod a p
    have h2 := Nat.div_add_mod b p
    have : b - a = p * (b / p) - p * (a / p) := by omega
    rw [this, ← Nat.mul_sub]
    exact Nat.dvd_mul_right _ _
  · rintro ⟨k, hk⟩
    have : b = a + p * k := by omega
    rw [this, Nat.add_mul_mod_self_left]

theorem mul_cancel {p a x y : Nat} (hp : Prime p) (ha : ¬ p ∣ a) (h : a * x % p = a * y % p) : x % p = y % p := by
  rcases Nat.le_total x y with hxy | hxy
  · rw [mod_eq_sub (Nat.mul_le_mul_left a hxy), ← Nat.mul_sub] at h
    rw [mod_eq_sub hxy]
    exact (hp.dvd_mul h).resolve_left ha
  · have h := h.symm
    rw [mod_eq_sub (Nat.mul_le_mul_left a hxy), ← Nat.mul_sub] at h
    exact ((mod_eq_sub hxy).2 ((hp.dvd_mul h).resolve_left ha)).symm

def prod : List Nat → Nat
  | [] => 1
  | x :: l => x * prod l
theorem prod_perm {l1 l2 : List Nat} (h : l1.Perm l2) : prod l1 = prod l2 := by
  induction h with
  | nil => rfl
  | cons x _ ih => simp [prod, ih]
  | swap x y l => simp [prod, Nat.mul_left_comm]
  | trans _ _ h1 h2 => exact h1.trans h2
theorem prod_map (p a : Nat) (l : List Nat) : prod (l.map fun x => a * x % p) % p = a ^ l.length * prod l % p := by
  induction l with
  | nil => simp [prod]
  | cons x l ih =>
    show (a * x % p) * prod (l.map fun x => a * x % p) % p = a ^ (l.length + 1) * (x * prod l) % p
    rw [Nat.mod_mul_mod, Nat.mul_mod (a * x), ih, ← Nat.mul_mod]
    congr 1
    rw [Nat.pow_succ]
    simp only [Nat.mul_assoc, Nat.mul_left_comm]
theorem perm_of {l1 l2 : List Nat} (h1 : l1.Nodup) (h : ∀ x ∈ l1, x ∈ l2) (hl : l2.length ≤ l1.length) : l1.Perm l2 := by
  induction l1 generalizing l2 with
  | nil => rw [List.eq_nil_of_length_eq_zero (Nat.le_zero.1 hl)]
  | cons x l ih =>
    have hx := h x List.mem_cons_self
    have hp := List.perm_cons_erase hx
    have hn := List.nodup_cons.1 h1
    refine (List.Perm.cons x (ih hn.2 (fun y hy => ?_) ?_)).trans hp.symm
    · have hne : y ≠ x := fun e => hn.1 (e ▸ hy)
      exact (List.mem_erase_of_ne hne).2 (h y (List.mem_cons_of_mem _ hy))
    · rw [List.length_erase_of_mem hx]
      simp at hl ⊢
      omega
theorem map_nodup {l : List Nat} (h : l.Nodup) (f : Nat → Nat) (hf : ∀ x ∈ l, ∀ y ∈ l, f x = f y → x = y) : (l.map f).Nodup := by
  induction l with
  | nil => simp
  | cons x l ih =>
    have hn := List.nodup_cons.1 h
    rw [List.map_cons, List.nodup_cons]
    refine ⟨fun hm => ?_, ih hn.2 fun a ha b hb => hf a (List.mem_cons_of_mem _ ha) b (List.mem_cons_of_mem _ hb)⟩
    obtain ⟨y, hy, e⟩ := List.mem_map.1 hm
    exact hn.1 (hf y (List.mem_cons_of_mem _ hy) x List.mem_cons_self e ▸ hy)

theorem prod_coprime {p : Nat} (hp : Prime p) (l : List Nat) (h : ∀ x ∈ l, ¬ p ∣ x) : ¬ p ∣ prod l := by
  induction l with
  | nil =>
    intro h1
    have h1 : p ∣ 1 := h1
    have := Nat.le_of_dvd (by decide) h1
    have := hp.1
    omega
  | cons x l ih =>
    intro h1
    rcases hp.dvd_mul h1 with h2 | h2
    · exact h x List.mem_cons_self h2
    · exact ih (fun y hy => h y (List.mem_cons_of_mem _ hy)) h2

theorem fermat {p a : Nat} (hp : Prime p) (ha : ¬ p ∣ a) : a ^ (p - 1) % p = 1 := by
  have hp2 := hp.1
  let l := List.range' 1 (p - 1)
  have hmem : ∀ x ∈ l, 1 ≤ x ∧ x < p := fun x hx => by
    have := List.mem_range'_1.1 hx
    omega
  have hnd : ∀ x ∈ l, ¬ p ∣ x := fun x hx h => by
    have := hmem x hx
    have := Nat.le_of_dvd (by omega) h
    omega
  have hinj : ∀ x ∈ l, ∀ y ∈ l, a * x % p = a * y % p → x = y := fun x hx y hy h => by
    have := mul_cancel hp ha h
    rw [Nat.mod_eq_of_lt (hmem x hx).2, Nat.mod_eq_of_lt (hmem y hy).2] at this
    exact this
  have hperm : (l.map fun x => a * x % p).Perm l := by
    refine perm_of (map_nodup (List.nodup_range' (s := 1) (n := p - 1)) _ hinj) (fun y hy => ?_) (by simp [l])
    obtain ⟨x, hx, rfl⟩ := List.mem_map.1 hy
    refine List.mem_range'_1.2 ⟨?_, ?_⟩
    · rcases Nat.eq_zero_or_pos (a * x % p) with h0 | h0
      · rcases hp.dvd_mul (Nat.dvd_of_mod_eq_zero h0) with h1 | h1
        · exact absurd h1 ha
        · exact absurd h1 (hnd x hx)
      · exact h0
    · have := Nat.mod_lt (a * x) (show p > 0 by omega)
      omega
  have e := prod_map p a l
  rw [prod_perm hperm] at e
  have hl : l.length = p - 1 := by simp [l]
  rw [hl] at e
  have e2 : prod l * 1 % p = prod l * a ^ (p - 1) % p := by rw [Nat.mul_one, e, Nat.mul_comm]
  have := mul_cancel hp (prod_coprime hp l hnd) e2
  rw [Nat.mod_eq_of_lt (show 1 < p by omega)] at this
  exact this.symm

theorem pow_mod' (a n p : Nat) : (a % p) ^ n % p = a ^ n % p := (Nat.pow_mod a n p).symm

theorem pow_gcd {r a : Nat} (hr : Prime r) (ha : ¬ r ∣ a) (x y : Nat) (hx : a ^ x % r = 1) (hy : a ^ y % r = 1) : a ^ Nat.gcd x y % r = 1 := by
  have h1 : 1 % r = 1 := Nat.mod_eq_of_lt hr.1
  induction x, y using Nat.gcd.induction with
  | H0 n => simpa using hy
  | H1 m n hm ih =>
    rw [Nat.gcd_rec]
    refine ih ?_ hx
    have e : a ^ n = (a ^ m) ^ (n / m) * a ^ (n % m) := by
      rw [← Nat.pow_mul, ← Nat.pow_add, Nat.div_add_mod]
    rw [e, Nat.mul_mod, Nat.pow_mod, hx, Nat.one_pow, h1, Nat.one_mul, Nat.mod_mod] at hy
    exact hy

/-- a to the power of n, modulo p: by squaring. -/
def powMod (p : Nat) : Nat → Nat → Nat → Nat → Nat
  | 0, _, _, acc => acc
  | f + 1, a, n, acc => powMod p f (a * a % p) (n / 2) (if n % 2 = 1 then acc * a % p else acc)
theorem powMod_eq (p : Nat) (f a n acc : Nat) (hn : n < 2 ^ f) (h : acc < p) : powMod p f a n acc = acc * a ^ n % p := by
  induction f generalizing a n acc with
  | zero =>
    have : n = 0 := by simpa using hn
    subst this
    simp [powMod, Nat.mod_eq_of_lt h]
  | succ f ih =>
    have hp : 0 < p := by omega
    have e : a ^ n = (a * a) ^ (n / 2) * a ^ (n % 2) := by
      rw [← Nat.pow_two, ← Nat.pow_mul, ← Nat.pow_add, Nat.div_add_mod]
    rw [powMod, ih _ _ _ (by rw [Nat.pow_succ] at hn; omega) (by split; exact Nat.mod_lt _ hp; exact h)]
    rw [Nat.mul_mod, Nat.pow_mod (a * a % p), Nat.mod_mod, ← Nat.pow_mod, ← Nat.mul_mod]
    split
    · rename_i h1
      rw [h1] at e
      rw [Nat.mod_mul_mod, e, Nat.pow_one, Nat.mul_assoc, Nat.mul_comm a]
    · rename_i h1
      have h0 : n % 2 = 0 := by omega
      rw [h0, Nat.pow_zero, Nat.mul_one] at e
      rw [e]

/-- A number without a divisor up to its root is prime. -/
theorem prime_of_small {n : Nat} (h2 : 2 ≤ n) (h : ∀ r, Prime r → r ∣ n → n < r * r) : Prime n := by
  refine ⟨h2, fun m hm => ?_⟩
  obtain ⟨k, hk⟩ := hm
  by_cases h1 : m = 1
  · exact .inl h1
  by_cases hk1 : k = 1
  · exact .inr (by rw [hk, hk1, Nat.mul_one])
  exfalso
  have hex : ∀ d, 2 ≤ d → ∃ r, Prime r ∧ r ∣ d := by
    intro d
    induction d using Nat.strongRecOn with
    | _ d ih =>
      intro hd
      by_cases hc : ∃ m, m ∣ d ∧ m ≠ 1 ∧ m ≠ d
      · obtain ⟨m, hm, h1, h2⟩ := hc
        have hle := Nat.le_of_dvd (by omega) hm
        have h0 : m ≠ 0 := by rintro rfl; have := Nat.zero_dvd.1 hm; omega
        obtain ⟨r, hr, hrm⟩ := ih m (by omega) (by omega)
        exact ⟨r, hr, Nat.dvd_trans hrm hm⟩
      · refine ⟨d, ⟨hd, fun m hm => ?_⟩, Nat.dvd_refl d⟩
        by_cases h1 : m = 1
        · exact .inl h1
        · exact .inr (Classical.byContradiction fun h2 => hc ⟨m, hm, h1, h2⟩)
  have hm0 : m ≠ 0 := by rintro rfl; rw [Nat.zero_mul] at hk; omega
  have hk0 : k ≠ 0 := by rintro rfl; rw [Nat.mul_zero] at hk; omega
  rcases Nat.le_total m k with hmk | hmk
  · obtain ⟨r, hr, hrm⟩ := hex m (by omega)
    have h3 := h r hr (Nat.dvd_trans hrm ⟨k, hk⟩)
    have h4 := Nat.le_of_dvd (by omega) hrm
    have h5 : r * r ≤ m * k := Nat.mul_le_mul h4 (Nat.le_trans h4 hmk)
    omega
  · obtain ⟨r, hr, hrm⟩ := hex k (by omega)
    have h3 := h r hr (Nat.dvd_trans hrm ⟨m, by rw [hk, Nat.mul_comm]⟩)
    have h4 := Nat.le_of_dvd (by omega) hrm
    have h5 : r * r ≤ m * k := Nat.mul_le_mul (Nat.le_trans h4 hmk) h4
    omega

/-- Trial division. -/
theorem prime_of_trial {n b : Nat} (h2 : 2 ≤ n) (hb : n < (b + 2) * (b + 2)) (h : (List.range b).all (fun i => decide (n % (i + 2) ≠ 0)) = true) : Prime n := by
  refine prime_of_small h2 fun r hr hrn => ?_
  apply Classical.byContradiction
  intro hc
  have hr2 := hr.1
  have hrb : r < b + 2 := by
    apply Classical.byContradiction
    intro hge
    have : (b + 2) * (b + 2) ≤ r * r := Nat.mul_le_mul (by omega) (by omega)
    omega
  rw [List.all_eq_true] at h
  have := h (r - 2) (List.mem_range.2 (by omega))
  rw [show r - 2 + 2 = r by omega] at this
  exact (of_decide_eq_true this) (Nat.mod_eq_zero_of_dvd hrn)

/-- What a prime q of n - 1 tells of n's divisors. -/
theorem pock {n q a m r : Nat} (hq : Prime q) (hn : n - 1 = q * m) (hr : Prime r) (hrn : r ∣ n) (h1 : a ^ (n - 1) % n = 1) (hg : Nat.gcd (a ^ m % n + (n - 1)) n = 1) (hn2 : 2 ≤ n) : q ∣ r - 1 := by
  apply Classical.byContradiction
  intro hc
  have hr2 := hr.1
  have e1 : a ^ (n - 1) % r = 1 := by
    have := congrArg (· % r) h1
    simp only [Nat.mod_mod_of_dvd _ hrn, Nat.mod_eq_of_lt (show 1 < r by omega)] at this
    exact this
  have ha : ¬ r ∣ a := by
    intro hra
    have h0 : n - 1 ≠ 0 := by omega
    have : r ∣ a ^ (n - 1) := by
      obtain ⟨k, hk⟩ : ∃ k, n - 1 = k + 1 := ⟨n - 2, by omega⟩
      rw [hk, Nat.pow_succ]
      exact Nat.dvd_trans hra (Nat.dvd_mul_left _ _)
    rw [Nat.mod_eq_zero_of_dvd this] at e1
    omega
  have e2 := pow_gcd hr ha (n - 1) (r - 1) e1 (fermat hr ha)
  have hco := hq.coprime hc
  have hd : Nat.gcd (n - 1) (r - 1) ∣ m := by
    have h3 : Nat.gcd (n - 1) (r - 1) ∣ q * m := hn ▸ Nat.gcd_dvd_left _ _
    have h4 : Nat.Coprime (Nat.gcd (n - 1) (r - 1)) q := (Nat.Coprime.coprime_dvd_right (Nat.gcd_dvd_right (n - 1) (r - 1)) hco).symm
    exact h4.dvd_of_dvd_mul_left h3
  have e3 : a ^ m % r = 1 := by
    obtain ⟨k, hk⟩ := hd
    rw [hk, Nat.pow_mul, Nat.pow_mod, e2, Nat.one_pow, Nat.mod_eq_of_lt (by omega)]
  have e4 : r ∣ a ^ m % n + (n - 1) := by
    have h5 : (a ^ m % n) % r = 1 := by rw [Nat.mod_mod_of_dvd _ hrn, e3]
    have h6 := Nat.div_add_mod (a ^ m % n) r
    rw [h5] at h6
    rw [show a ^ m % n + (n - 1) = r * (a ^ m % n / r) + n by omega]
    exact Nat.dvd_add (Nat.dvd_mul_right _ _) hrn
  have : r ∣ Nat.gcd (a ^ m % n + (n - 1)) n := Nat.dvd_gcd e4 hrn
  rw [hg] at this
  have := Nat.le_of_dvd (by decide) this
  omega

theorem pock1 {n q a m f : Nat} (hq : Prime q) (hn : n - 1 = q * m) (hn2 : 2 ≤ n) (hf : n < 2 ^ f) (hb : n < (q + 1) * (q + 1))
    (h1 : powMod n f a (n - 1) 1 = 1) (hg : Nat.gcd (powMod n f a m 1 + (n - 1)) n = 1) : Prime n := by
  have hm : m ≤ n - 1 := by
    rw [hn]; exact Nat.le_mul_of_pos_left _ (by have := hq.1; omega)
  rw [powMod_eq n f a (n - 1) 1 (by omega) (by omega), Nat.one_mul] at h1
  rw [powMod_eq n f a m 1 (by omega) (by omega), Nat.one_mul] at hg
  refine prime_of_small hn2 fun r hr hrn => ?_
  have hd := pock hq hn hr hrn h1 hg hn2
  have hle := Nat.le_of_dvd (by have := hr.1; omega) hd
  have hr2 := hr.1
  have hqr : q + 1 ≤ r := by omega
  have : (q + 1) * (q + 1) ≤ r * r := Nat.mul_le_mul hqr hqr
  omega

theorem pock2 {n q s a b m k f : Nat} (hq : Prime q) (hs : Prime s) (hqs : q ≠ s) (hn : n - 1 = q * m) (hk : n - 1 = s * k) (hn2 : 2 ≤ n) (hf : n < 2 ^ f) (hb : n < (q * s + 1) * (q * s + 1))
    (h1 : powMod n f a (n - 1) 1 = 1) (hg : Nat.gcd (powMod n f a m 1 + (n - 1)) n = 1) (h2 : powMod n f b (n - 1) 1 = 1) (hh : Nat.gcd (powMod n f b k 1 + (n - 1)) n = 1) : Prime n := by
  have hm : m ≤ n - 1 := by
    rw [hn]; exact Nat.le_mul_of_pos_left _ (by have := hq.1; omega)
  have hk' : k ≤ n - 1 := by
    rw [hk]; exact Nat.le_mul_of_pos_left _ (by have := hs.1; omega)
  rw [powMod_eq n f a (n - 1) 1 (by omega) (by omega), Nat.one_mul] at h1
  rw [powMod_eq n f b (n - 1) 1 (by omega) (by omega), Nat.one_mul] at h2
  rw [powMod_eq n f a m 1 (by omega) (by omega), Nat.one_mul] at hg
  rw [powMod_eq n f b k 1 (by omega) (by omega), Nat.one_mul] at hh
  refine prime_of_small hn2 fun r hr hrn => ?_
  have hd1 := pock hq hn hr hrn h1 hg hn2
  have hd2 := pock hs hk hr hrn h2 hh hn2
  have hco : Nat.Coprime q s := hq.coprime fun h => by
    rcases hs.2 q h with h | h
    · have := hq.1; omega
    · exact hqs h
  have hd := hco.mul_dvd_of_dvd_of_dvd hd1 hd2
  have hle := Nat.le_of_dvd (by have := hr.1; omega) hd
  have hr2 := hr.1
  have hqr : q * s + 1 ≤ r := by omega
  have : (q * s + 1) * (q * s + 1) ≤ r * r := Nat.mul_le_mul hqr hqr
  omega

set_option maxRecDepth 100000 in
theorem prime_4 : Prime 1919519569386763 :=
  pock2 (q := 8574133) (s := 47) (a := 2) (b := 2) (m := 1919519569386762 / 8574133) (k := 1919519569386762 / 47) (f := 51)
    (prime_of_trial (b := 2928) (by decide) (by decide) (by decide +kernel)) (prime_of_trial (b := 6) (by decide) (by decide) (by decide +kernel)) (by decide)
    (by decide +kernel) (by decide +kernel) (by decide) (by decide +kernel) (by decide +kernel) (by decide +kernel) (by decide +kernel) (by decide +kernel) (by decide +kernel)
theorem prime_3 : Prime 31757755568855353 :=
  pock2 (q := 430751) (s := 4153) (a := 2) (b := 2) (m := 31757755568855352 / 430751) (k := 31757755568855352 / 4153) (f := 55)
    (prime_of_trial (b := 656) (by decide) (by decide) (by decide +kernel)) (prime_of_trial (b := 64) (by decide) (by decide) (by decide +kernel)) (by decide)
    (by decide +kernel) (by decide +kernel) (by decide) (by decide +kernel) (by decide +kernel) (by decide +kernel) (by decide +kernel) (by decide +kernel) (by decide +kernel)
theorem prime_2 : Prime 75445702479781427272750846543864801 :=
  pock2 (q := 1919519569386763) (s := 75707) (a := 2) (b := 2) (m := 75445702479781427272750846543864800 / 1919519569386763) (k := 75445702479781427272750846543864800 / 75707) (f := 116)
    prime_4 (prime_of_trial (b := 275) (by decide) (by decide) (by decide +kernel)) (by decide)
    (by decide +kernel) (by decide +kernel) (by decide) (by decide +kernel) (by decide +kernel) (by decide +kernel) (by decide +kernel) (by decide +kernel) (by decide +kernel)
theorem prime_1 : Prime 74058212732561358302231226437062788676166966415465897661863160754340907 :=
  pock2 (q := 75445702479781427272750846543864801) (s := 31757755568855353) (a := 2) (b := 2) (m := 74058212732561358302231226437062788676166966415465897661863160754340906 / 75445702479781427272750846543864801) (k := 74058212732561358302231226437062788676166966415465897661863160754340906 / 31757755568855353) (f := 236)
    prime_2 prime_3 (by decide)
    (by decide +kernel) (by decide +kernel) (by decide) (by decide +kernel) (by decide +kernel) (by decide +kernel) (by decide +kernel) (by decide +kernel) (by decide +kernel)
theorem prime_P : Prime P :=
  pock1 (q := 74058212732561358302231226437062788676166966415465897661863160754340907) (a := 2) (m := (P - 1) / 74058212732561358302231226437062788676166966415465897661863160754340907) (f := 255)
    prime_1 (by decide +kernel) (by decide) (by decide +kernel) (by decide +kernel) (by decide +kernel) (by decide +kernel)
end F5
