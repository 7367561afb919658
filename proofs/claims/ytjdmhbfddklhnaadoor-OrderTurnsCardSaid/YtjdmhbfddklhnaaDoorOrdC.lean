/-
  Plain mathematics: the five orders of bytes, each as an order must be; the bytes of a number, the highest first. No conditions.
-/
import Derived.Test.YtjdmhbfddklhnaaDoorOrdM
import Derived.Test.YtjdmhbfddklhnaaDoorNumM
import Derived.Test.YtjdmhbfddklhnaaDoorDatM
set_option linter.unusedVariables false
set_option linter.unusedSimpArgs false
namespace Go.Proofs.YtjdmhbfddklhnaaDoor
open Go Ord11 Num9 Dat

namespace Ord11
def three (l m : Bool) : Int := if l then -1 else if m then 1 else 0
/-- An order by whole numbers. -/
def keyed (f : List UInt8 → Option Int) (a b : List UInt8) : Int × Bool :=
  match f a, f b with
  | some x, some y => (three (decide (x < y)) (decide (y < x)), true)
  | _, _ => (0, false)
/-- A number's place: none for what is no number, and for what is not a number. -/
def numK (l : List UInt8) : Option Int := match numR l with
  | .none => none
  | .nan => none
  | .inf s => key (if s then 0xfff0000000000000 else 0x7ff0000000000000)
  | .val s n sc => match Ieee.double.div (conv n) (conv (10 ^ sc)) with
    | some q => key (sgn s q)
    | none => none
def clockK (l : List UInt8) : Option Int := (clockR l).map fun n => (n : Int)
def dateK (l : List UInt8) : Option Int := (dateR l).map fun n => (n : Int)
def valB : List UInt8 → Nat → Nat
  | [], v => v
  | c :: r, v => valB r (256 * v + c.toNat)
def binK (l : List UInt8) : Option Int := some (valB l 0 : Nat)
def textC (a b : List UInt8) : Int × Bool := (three (Op.bytesLess a b) (Op.bytesLess b a), true)
def ordC (o : Nat) (a b : List UInt8) : Int × Bool :=
  if o = 1 then textC a b else if o = 2 then keyed numK a b else if o = 3 then keyed clockK a b else if o = 4 then keyed binK a b else if o = 5 then keyed dateK a b else (0, false)

theorem less_irrefl : ∀ a : List UInt8, Op.bytesLess a a = false
  | [] => rfl
  | c :: r => by
    unfold Op.bytesLess
    simp [less_irrefl r]
theorem less_trans : ∀ a b c : List UInt8, Op.bytesLess a b = true → Op.bytesLess b c = true → Op.bytesLess a c = true
  | a, [], _, h, _ => by cases a <;> simp [Op.bytesLess] at h
  | _, _ :: _, [], _, h => by simp [Op.bytesLess] at h
  | [], _ :: _, _ :: _, _, _ => rfl
  | x :: a, y :: b, z :: c, h1, h2 => by
    unfold Op.bytesLess at h1 h2 ⊢
    simp only [Bool.or_eq_true, decide_eq_true_eq, Bool.and_eq_true, beq_iff_eq, UInt8.lt_iff_toNat_lt] at h1 h2 ⊢
    rcases h1 with h1 | ⟨rfl, h1⟩
    · rcases h2 with h2 | ⟨rfl, h2⟩
      · exact .inl (by omega)
      · exact .inl h1
    · rcases h2 with h2 | ⟨rfl, h2⟩
      · exact .inl h2
      · exact .inr ⟨rfl, less_trans a b c h1 h2⟩
theorem less_asymm {a b : List UInt8} (h : Op.bytesLess a b = true) : Op.bytesLess b a = false := by
  cases h2 : Op.bytesLess b a with
  | false => rfl
  | true => have := less_trans a b a h h2; rw [less_irrefl] at this; cases this
theorem three_cases (l m : Bool) : three l m = -1 ∨ three l m = 0 ∨ three l m = 1 := by cases l <;> cases m <;> simp [three]
theorem keyed_one {f : List UInt8 → Option Int} {a b : List UInt8} {x y : Int} (ha : f a = some x) (hb : f b = some y) : keyed f a b = (three (decide (x < y)) (decide (y < x)), true) := by unfold keyed; rw [ha, hb]
theorem keyed_none {f : List UInt8 → Option Int} {a b : List UInt8} (h : f a = none ∨ f b = none) : keyed f a b = (0, false) := by
  unfold keyed
  rcases h with h | h
  · rw [h]
  · rw [h]; cases f a <;> rfl
theorem keyed_ok (f : List UInt8 → Option Int) (a b : List UInt8) : (keyed f a b).2 = ((f a).isSome && (f b).isSome) := by
  unfold keyed
  cases f a <;> cases f b <;> rfl
theorem keyed_swap (f : List UInt8 → Option Int) (a b : List UInt8) : (keyed f b a).1 = -(keyed f a b).1 := by
  unfold keyed
  cases f a with
  | none => cases f b <;> rfl
  | some x =>
    cases f b with
    | none => rfl
    | some y =>
      unfold three
      by_cases h1 : x < y
      · have h2 : ¬ y < x := by omega
        simp [h1, h2]
      · by_cases h2 : y < x
        · simp [h1, h2]
        · simp [h1, h2]
theorem keyed_tri (f : List UInt8 → Option Int) (a b : List UInt8) : (keyed f a b).1 = -1 ∨ (keyed f a b).1 = 0 ∨ (keyed f a b).1 = 1 := by
  unfold keyed
  cases f a <;> cases f b <;> first | exact three_cases _ _ | exact .inr (.inl rfl)
theorem three_le {x y : Int} : three (decide (x < y)) (decide (y < x)) ≤ 0 ↔ x ≤ y := by
  unfold three
  by_cases h1 : x < y
  · simp [h1]; omega
  · by_cases h2 : y < x
    · simp [h1, h2]
    · simp [h1, h2]; omega
theorem keyed_trans (f : List UInt8 → Option Int) (a b c : List UInt8) (ha : (f a).isSome = true) (hb : (f b).isSome = true) (hc : (f c).isSome = true) (h1 : (keyed f a b).1 ≤ 0) (h2 : (keyed f b c).1 ≤ 0) : (keyed f a c).1 ≤ 0 := by
  obtain ⟨x, hx⟩ := Option.isSome_iff_exists.1 ha
  obtain ⟨y, hy⟩ := Option.isSome_iff_exists.1 hb
  obtain ⟨z, hz⟩ := Option.isSome_iff_exists.1 hc
  rw [keyed_one hx hy] at h1
  rw [keyed_one hy hz] at h2
  rw [keyed_one hx hz]
  rw [three_le] at h1 h2 ⊢
  omega
theorem text_le {a b : List UInt8} : three (Op.bytesLess a b) (Op.bytesLess b a) ≤ 0 ↔ Op.bytesLess b a = false := by
  unfold three
  cases h1 : Op.bytesLess a b with
  | true => simp [less_asymm h1]
  | false => cases h2 : Op.bytesLess b a <;> simp
theorem text_swap (a b : List UInt8) : (textC b a).1 = -(textC a b).1 := by
  unfold textC three
  cases h1 : Op.bytesLess a b with
  | true => simp [less_asymm h1]
  | false => cases h2 : Op.bytesLess b a <;> simp
theorem text_trans (a b c : List UInt8) (h1 : (textC a b).1 ≤ 0) (h2 : (textC b c).1 ≤ 0) : (textC a c).1 ≤ 0 := by
  unfold textC at *
  rw [text_le] at *
  cases h : Op.bytesLess c a with
  | false => rfl
  | true =>
    rcases less_total a b with h3 | h3 | h3
    · have := less_trans c a b h h3
      rw [h2] at this; cases this
    · rw [h3] at h; rw [h] at h2; cases h2
    · rw [h1] at h3; cases h3
theorem isV_keyed {f : List UInt8 → Option Int} (a : List UInt8) : (keyed f a a).2 = (f a).isSome := by rw [keyed_ok, Bool.and_self]
theorem ordC_lawful : Lawful ordC where
  swap o a b := by
    unfold ordC
    split
    · exact text_swap a b
    · repeat' (first | exact keyed_swap _ a b | rfl | split)
  ok o a b := by
    unfold isV ordC
    split
    · rfl
    · split
      · rw [keyed_ok, isV_keyed, isV_keyed]
      · split
        · rw [keyed_ok, isV_keyed, isV_keyed]
        · split
          · rw [keyed_ok, isV_keyed, isV_keyed]
          · split
            · rw [keyed_ok, isV_keyed, isV_keyed]
            · rfl
  tri o a b := by
    unfold ordC
    split
    · exact three_cases _ _
    · repeat' (first | exact keyed_tri _ a b | exact .inr (.inl rfl) | split)
  trans o a b c ha hb hc h1 h2 := by
    unfold isV at ha hb hc
    unfold ordC at *
    split
    · rename_i h; simp only [h, if_true] at h1 h2; exact text_trans a b c h1 h2
    · rename_i n1
      simp only [n1, if_false] at ha hb hc h1 h2
      split
      · rename_i h; simp only [h, if_true] at ha hb hc h1 h2; rw [isV_keyed] at ha hb hc; exact keyed_trans _ a b c ha hb hc h1 h2
      · rename_i n2
        simp only [n2, if_false] at ha hb hc h1 h2
        split
        · rename_i h; simp only [h, if_true] at ha hb hc h1 h2; rw [isV_keyed] at ha hb hc; exact keyed_trans _ a b c ha hb hc h1 h2
        · rename_i n3
          simp only [n3, if_false] at ha hb hc h1 h2
          split
          · rename_i h; simp only [h, if_true] at ha hb hc h1 h2; rw [isV_keyed] at ha hb hc; exact keyed_trans _ a b c ha hb hc h1 h2
          · rename_i n4
            simp only [n4, if_false] at ha hb hc h1 h2
            split
            · rename_i h; simp only [h, if_true] at ha hb hc h1 h2; rw [isV_keyed] at ha hb hc; exact keyed_trans _ a b c ha hb hc h1 h2
            · exact Int.le_refl _

/-! Bytes as a number, the highest first. -/
def bare (l : List UInt8) : List UInt8 := l.dropWhile fun c => c == 0
theorem valB_add : ∀ (l : List UInt8) (v : Nat), valB l v = v * 256 ^ l.length + valB l 0
  | [], v => by simp [valB]
  | c :: r, v => by
    rw [valB, valB, valB_add r (256 * v + c.toNat), valB_add r (256 * 0 + c.toNat), List.length_cons, Nat.pow_succ]
    have e : (256 * v + c.toNat) * 256 ^ r.length = v * (256 ^ r.length * 256) + c.toNat * 256 ^ r.length := by
      rw [Nat.add_mul, Nat.mul_comm 256 v, Nat.mul_assoc, Nat.mul_comm 256 (256 ^ r.length)]
    rw [e]
    simp only [Nat.mul_zero, Nat.zero_add]
    omega
theorem valB_lt : ∀ l : List UInt8, valB l 0 < 256 ^ l.length
  | [] => by simp [valB]
  | c :: r => by
    have h := valB_lt r
    have hc := c.toNat_lt
    rw [valB, valB_add, List.length_cons, Nat.pow_succ]
    have : (256 * 0 + c.toNat) * 256 ^ r.length ≤ 255 * 256 ^ r.length := Nat.mul_le_mul_right _ (by omega)
    omega
theorem valB_bare (l : List UInt8) : valB (bare l) 0 = valB l 0 := by
  induction l with
  | nil => rfl
  | cons c r ih =>
    unfold bare at *
    rw [List.dropWhile_cons]
    split
    · rename_i h
      have : c = 0 := by simpa using h
      subst this
      rw [ih]
      rfl
    · rfl
theorem bare_head {l : List UInt8} {c : UInt8} {r : List UInt8} (h : bare l = c :: r) : c ≠ 0 := by
  induction l with
  | nil => cases h
  | cons d q ih =>
    unfold bare at *
    rw [List.dropWhile_cons] at h
    split at h
    · exact ih h
    · rename_i h2
      injection h with h3 h4
      subst h3
      simpa using h2
theorem valB_ge {c : UInt8} (r : List UInt8) (hc : c ≠ 0) : 256 ^ r.length ≤ valB (c :: r) 0 := by
  have : c.toNat ≠ 0 := fun h => hc (UInt8.toNat_inj.1 h)
  rw [valB, valB_add]
  have : 1 * 256 ^ r.length ≤ (256 * 0 + c.toNat) * 256 ^ r.length := Nat.mul_le_mul_right _ (by omega)
  omega
/-- Of numbers without noughts ahead the longer one is greater. -/
theorem bare_long {a b : List UInt8} (h : (bare a).length < (bare b).length) : valB a 0 < valB b 0 := by
  rw [← valB_bare a, ← valB_bare b]
  cases hb : bare b with
  | nil => rw [hb] at h; cases h
  | cons c r =>
    have h1 := valB_lt (bare a)
    have h2 := valB_ge r (bare_head hb)
    rw [hb, List.length_cons] at h
    have h3 : 256 ^ (bare a).length ≤ 256 ^ r.length := Nat.pow_le_pow_right (by omega) (by omega)
    omega
theorem less_val : ∀ {a b : List UInt8}, a.length = b.length → (Op.bytesLess a b = true ↔ valB a 0 < valB b 0)
  | [], [], _ => by simp [Op.bytesLess, valB]
  | [], _ :: _, h => by cases h
  | _ :: _, [], h => by cases h
  | x :: a, y :: b, h => by
    have hl : a.length = b.length := by simpa using h
    have ih := less_val hl
    have h1 := valB_lt a
    have h2 := valB_lt b
    rw [valB, valB_add a, valB, valB_add b, ← hl]
    rw [← hl] at h2
    unfold Op.bytesLess
    simp only [Bool.or_eq_true, decide_eq_true_eq, Bool.and_eq_true, beq_iff_eq, UInt8.lt_iff_toNat_lt]
    rcases Nat.lt_trichotomy x.toNat y.toNat with hx | hx | hx
    · have hm : (x.toNat + 1) * 256 ^ a.length ≤ y.toNat * 256 ^ a.length := Nat.mul_le_mul_right _ hx
      rw [Nat.add_mul, Nat.one_mul] at hm
      simp only [Nat.mul_zero, Nat.zero_add]
      constructor
      · intro _; omega
      · intro _; exact .inl hx
    · have e : x = y := UInt8.toNat_inj.1 hx
      subst e
      simp only [Nat.mul_zero, Nat.zero_add, Nat.lt_irrefl, false_or, true_and]
      rw [ih]
      omega
    · have hm : (y.toNat + 1) * 256 ^ a.length ≤ x.toNat * 256 ^ a.length := Nat.mul_le_mul_right _ hx
      rw [Nat.add_mul, Nat.one_mul] at hm
      simp only [Nat.mul_zero, Nat.zero_add]
      constructor
      · rintro (h3 | ⟨h3, _⟩)
        · omega
        · rw [h3] at hx; omega
      · intro _; omega
/-- How numbers of bytes stand, told by their lengths and texts. -/
theorem bin_told (a b : List UInt8) : (keyed binK a b).1 = (if (bare a).length ≠ (bare b).length then three (decide ((bare a).length < (bare b).length)) true else three (Op.bytesLess (bare a) (bare b)) (Op.bytesLess (bare b) (bare a))) := by
  rw [keyed_one (show binK a = some _ from rfl) (show binK b = some _ from rfl)]
  simp only [Int.ofNat_lt]
  split
  · rename_i h
    rcases Nat.lt_or_gt_of_ne h with h1 | h1
    · have h2 := bare_long h1
      simp [three, h1, h2]
    · have h2 := bare_long h1
      have h3 : ¬ (bare a).length < (bare b).length := by omega
      have h4 : ¬ valB a 0 < valB b 0 := by omega
      simp [three, h2, h3, h4]
  · rename_i h
    have h : (bare a).length = (bare b).length := Classical.not_not.1 h
    have e1 := less_val h
    have e2 := less_val h.symm
    rw [valB_bare, valB_bare] at e1 e2
    have f1 : Op.bytesLess (bare a) (bare b) = decide (valB a 0 < valB b 0) := by
      rw [Bool.eq_iff_iff, decide_eq_true_eq]; exact e1
    have f2 : Op.bytesLess (bare b) (bare a) = decide (valB b 0 < valB a 0) := by
      rw [Bool.eq_iff_iff, decide_eq_true_eq]; exact e2
    rw [f1, f2]
end Ord11
end Go.Proofs.YtjdmhbfddklhnaaDoor
