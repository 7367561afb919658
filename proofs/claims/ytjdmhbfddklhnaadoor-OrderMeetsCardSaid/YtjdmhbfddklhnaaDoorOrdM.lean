/-
  Plain mathematics of ranges over any orders that are as orders must be: meetings, what is in them, which are empty. No conditions.
-/
import Derived.Lib.Hide
set_option linter.unusedVariables false
set_option linter.unusedSimpArgs false
namespace Ord11

/-- An end: is it there, is it open, where. -/
structure Bd where
  is : Bool
  op : Bool
  at_ : List UInt8
structure Rg where
  o : Nat
  lo : Bd
  hi : Bd
def zeroB : Bd := ⟨false, false, []⟩
def zeroR : Rg := ⟨0, zeroB, zeroB⟩
abbrev Cmp := Nat → List UInt8 → List UInt8 → Int × Bool

section
variable (C : Cmp)
def isV (o : Nat) (b : List UInt8) : Bool := (C o b b).2
def mayB (o : Nat) (x : Bd) : Bool := (x.is && isV C o x.at_) || (!x.is && !x.op && x.at_.isEmpty)
def mayR (r : Rg) : Bool := decide (1 ≤ r.o) && decide (r.o ≤ 5) && mayB C r.o r.lo && mayB C r.o r.hi
/-- Does a place stand behind a lower end? -/
def above (o : Nat) (x : Bd) (b : List UInt8) : Bool := !x.is || decide (0 < (C o b x.at_).1) || (decide ((C o b x.at_).1 = 0) && !x.op)
def below (o : Nat) (x : Bd) (b : List UInt8) : Bool := !x.is || decide ((C o b x.at_).1 < 0) || (decide ((C o b x.at_).1 = 0) && !x.op)
def inR (r : Rg) (b : List UInt8) : Bool := mayR C r && isV C r.o b && above C r.o r.lo b && below C r.o r.hi b
def emptyR (r : Rg) : Bool := mayR C r && r.lo.is && r.hi.is && (decide (0 < (C r.o r.lo.at_ r.hi.at_).1) || (decide ((C r.o r.lo.at_ r.hi.at_).1 = 0) && (r.lo.op || r.hi.op)))
def endB (o : Nat) (x y : Bd) (lower : Bool) : Bd :=
  if x.is = false then y else if y.is = false then x else
  if (C o x.at_ y.at_).1 = 0 then (if y.op = true ∧ x.op = false then y else x) else
  if decide (0 < (C o x.at_ y.at_).1) = lower then x else y
def meetR (a b : Rg) : Rg × Bool := if mayR C a = true ∧ mayR C b = true ∧ a.o = b.o then (⟨a.o, endB C a.o a.lo b.lo true, endB C a.o a.hi b.hi false⟩, true) else (zeroR, false)
def sameB (x y : Bd) : Bool := (x.is == y.is) && (x.op == y.op) && (x.at_ == y.at_)
def sameR (a b : Rg) : Bool := decide (a.o = b.o) && sameB a.lo b.lo && sameB a.hi b.hi
def withinR (a b : Rg) : Bool := (meetR C a b).2 && (emptyR C a || sameR (meetR C a b).1 a)

/-- As orders must be. -/
structure Lawful : Prop where
  swap : ∀ o a b, (C o b a).1 = -(C o a b).1
  ok : ∀ o a b, (C o a b).2 = (isV C o a && isV C o b)
  tri : ∀ o a b, (C o a b).1 = -1 ∨ (C o a b).1 = 0 ∨ (C o a b).1 = 1
  trans : ∀ o a b c, isV C o a = true → isV C o b = true → isV C o c = true → (C o a b).1 ≤ 0 → (C o b c).1 ≤ 0 → (C o a c).1 ≤ 0
end

variable {C : Cmp}
theorem Lawful.lt_le (H : Lawful C) {o : Nat} {a b c : List UInt8} (ha : isV C o a = true) (hb : isV C o b = true) (hc : isV C o c = true) (h1 : (C o a b).1 < 0) (h2 : (C o b c).1 ≤ 0) : (C o a c).1 < 0 := by
  have s1 := H.swap o a b
  have s2 := H.swap o a c
  rcases H.tri o a c with h | h | h
  · omega
  · have := H.trans o b c a hb hc ha h2 (by omega)
    omega
  · have := H.trans o b c a hb hc ha h2 (by omega)
    omega
theorem Lawful.le_lt (H : Lawful C) {o : Nat} {a b c : List UInt8} (ha : isV C o a = true) (hb : isV C o b = true) (hc : isV C o c = true) (h1 : (C o a b).1 ≤ 0) (h2 : (C o b c).1 < 0) : (C o a c).1 < 0 := by
  have s1 := H.swap o b c
  have s2 := H.swap o a c
  rcases H.tri o a c with h | h | h
  · omega
  · have := H.trans o c a b hc ha hb (by omega) h1
    omega
  · have := H.trans o c a b hc ha hb (by omega) h1
    omega
/-- Where two stand the same, a third stands to both the same. -/
theorem Lawful.same_r (H : Lawful C) {o : Nat} {a b c : List UInt8} (ha : isV C o a = true) (hb : isV C o b = true) (hc : isV C o c = true) (h : (C o b c).1 = 0) : (C o a b).1 = (C o a c).1 := by
  have s1 := H.swap o a b
  have s2 := H.swap o b c
  have s3 := H.swap o a c
  have t1 := H.trans o a b c ha hb hc
  have t2 := H.trans o a c b ha hc hb
  have t3 := H.trans o b c a hb hc ha
  have t4 := H.trans o c b a hc hb ha
  rcases H.tri o a b with h1 | h1 | h1 <;> rcases H.tri o a c with h2 | h2 | h2 <;> omega
theorem Lawful.same_l (H : Lawful C) {o : Nat} {a b c : List UInt8} (ha : isV C o a = true) (hb : isV C o b = true) (hc : isV C o c = true) (h : (C o b c).1 = 0) : (C o b a).1 = (C o c a).1 := by
  have := H.same_r ha hb hc h
  have s1 := H.swap o a b
  have s2 := H.swap o a c
  omega
theorem Lawful.refl (H : Lawful C) (o : Nat) (a : List UInt8) : (C o a a).1 = 0 := by
  have := H.swap o a a
  omega
theorem mayB_is {o : Nat} {x : Bd} (h : mayB C o x = true) (hi : x.is = true) : isV C o x.at_ = true := by
  unfold mayB at h
  rw [hi] at h
  simpa using h
theorem mayB_not {o : Nat} {x : Bd} (h : mayB C o x = true) (hi : x.is = false) : x = zeroB := by
  obtain ⟨i, p, l⟩ := x
  unfold mayB at h
  subst hi
  simp at h
  obtain ⟨rfl, h2⟩ := h
  subst h2
  rfl
theorem mayR_parts {r : Rg} (h : mayR C r = true) : (1 ≤ r.o ∧ r.o ≤ 5) ∧ mayB C r.o r.lo = true ∧ mayB C r.o r.hi = true := by
  unfold mayR at h
  simp only [Bool.and_eq_true, decide_eq_true_eq] at h
  exact ⟨h.1.1, h.1.2, h.2⟩
theorem endB_may {o : Nat} {x y : Bd} {lower : Bool} (hx : mayB C o x = true) (hy : mayB C o y = true) : mayB C o (endB C o x y lower) = true := by
  unfold endB
  split
  · exact hy
  · split
    · exact hx
    · split
      · split
        · exact hy
        · exact hx
      · split
        · exact hx
        · exact hy
theorem meet_ok {a b : Rg} (h : (meetR C a b).2 = true) : mayR C a = true ∧ mayR C b = true ∧ a.o = b.o ∧ (meetR C a b).1 = ⟨a.o, endB C a.o a.lo b.lo true, endB C a.o a.hi b.hi false⟩ := by
  unfold meetR at h ⊢
  split
  · rename_i hc
    exact ⟨hc.1, hc.2.1, hc.2.2, rfl⟩
  · rename_i hc
    rw [if_neg hc] at h
    cases h
theorem meet_may {a b : Rg} (h : (meetR C a b).2 = true) : mayR C (meetR C a b).1 = true := by
  obtain ⟨ha, hb, ho, e⟩ := meet_ok h
  rw [e]
  obtain ⟨⟨h1, h2⟩, h3, h4⟩ := mayR_parts ha
  obtain ⟨_, h5, h6⟩ := mayR_parts hb
  rw [← ho] at h5 h6
  unfold mayR
  simp only [Bool.and_eq_true, decide_eq_true_eq]
  exact ⟨⟨⟨h1, h2⟩, endB_may h3 h5⟩, endB_may h4 h6⟩
theorem above_end (H : Lawful C) {o : Nat} {x y : Bd} {b : List UInt8} (hx : mayB C o x = true) (hy : mayB C o y = true) (hb : isV C o b = true) :
    above C o (endB C o x y true) b = (above C o x b && above C o y b) := by
  cases hxi : x.is with
  | false => unfold endB; rw [if_pos hxi]; simp [above, hxi]
  | true =>
    cases hyi : y.is with
    | false => unfold endB; rw [if_neg (by simp [hxi]), if_pos hyi]; simp [above, hyi]
    | true =>
      have vx := mayB_is hx hxi
      have vy := mayB_is hy hyi
      unfold endB
      rw [if_neg (by simp [hxi]), if_neg (by simp [hyi])]
      have s := H.swap o x.at_ y.at_
      split
      · rename_i h0
        have e := H.same_r hb vx vy h0
        unfold above
        rw [hxi, hyi]
        cases hxo : x.op <;> cases hyo : y.op <;> simp [hxi, hyi, hxo, hyo, e]
        all_goals (intro h; omega)
      · rename_i h0
        split
        · rename_i hg
          have hg : 0 < (C o x.at_ y.at_).1 := by simpa using hg
          unfold above
          rw [hxi, hyi]
          have : ∀ h : 0 ≤ (C o b x.at_).1, 0 < (C o b y.at_).1 := fun h => by
            have s1 := H.swap o b x.at_
            have s2 := H.swap o b y.at_
            have := H.lt_le vy vx hb (by omega) (show (C o x.at_ b).1 ≤ 0 by omega)
            omega
          by_cases hb0 : 0 ≤ (C o b x.at_).1
          · have h1 := this hb0
            simp [h1]
          · have h1 : ¬ 0 < (C o b x.at_).1 := by omega
            have h2 : ¬ (C o b x.at_).1 = 0 := by omega
            simp [h1, h2]
        · rename_i hg
          have hg : (C o x.at_ y.at_).1 < 0 := by
            have : ¬ 0 < (C o x.at_ y.at_).1 := by simpa using hg
            omega
          unfold above
          rw [hxi, hyi]
          have : ∀ h : 0 ≤ (C o b y.at_).1, 0 < (C o b x.at_).1 := fun h => by
            have s1 := H.swap o b x.at_
            have s2 := H.swap o b y.at_
            have := H.lt_le vx vy hb hg (show (C o y.at_ b).1 ≤ 0 by omega)
            omega
          by_cases hb0 : 0 ≤ (C o b y.at_).1
          · have h1 := this hb0
            simp [h1]
          · have h1 : ¬ 0 < (C o b y.at_).1 := by omega
            have h2 : ¬ (C o b y.at_).1 = 0 := by omega
            simp [h1, h2]
theorem below_end (H : Lawful C) {o : Nat} {x y : Bd} {b : List UInt8} (hx : mayB C o x = true) (hy : mayB C o y = true) (hb : isV C o b = true) :
    below C o (endB C o x y false) b = (below C o x b && below C o y b) := by
  cases hxi : x.is with
  | false => unfold endB; rw [if_pos hxi]; simp [below, hxi]
  | true =>
    cases hyi : y.is with
    | false => unfold endB; rw [if_neg (by simp [hxi]), if_pos hyi]; simp [below, hyi]
    | true =>
      have vx := mayB_is hx hxi
      have vy := mayB_is hy hyi
      unfold endB
      rw [if_neg (by simp [hxi]), if_neg (by simp [hyi])]
      have s := H.swap o x.at_ y.at_
      split
      · rename_i h0
        have e := H.same_r hb vx vy h0
        unfold below
        rw [hxi, hyi]
        cases hxo : x.op <;> cases hyo : y.op <;> simp [hxi, hyi, hxo, hyo, e]
        all_goals (intro h; omega)
      · rename_i h0
        split
        · rename_i hg
          have hg : (C o x.at_ y.at_).1 < 0 := by
            have : ¬ 0 < (C o x.at_ y.at_).1 := by simpa using hg
            omega
          unfold below
          rw [hxi, hyi]
          have : ∀ h : (C o b x.at_).1 ≤ 0, (C o b y.at_).1 < 0 := fun h => H.le_lt hb vx vy h hg
          by_cases hb0 : (C o b x.at_).1 ≤ 0
          · have h1 := this hb0
            simp [h1]
          · have h1 : ¬ (C o b x.at_).1 < 0 := by omega
            have h2 : ¬ (C o b x.at_).1 = 0 := by omega
            simp [h1, h2]
        · rename_i hg
          have hg : 0 < (C o x.at_ y.at_).1 := by simpa using hg
          unfold below
          rw [hxi, hyi]
          have : ∀ h : (C o b y.at_).1 ≤ 0, (C o b x.at_).1 < 0 := fun h => H.le_lt hb vy vx h (by omega)
          by_cases hb0 : (C o b y.at_).1 ≤ 0
          · have h1 := this hb0
            simp [h1]
          · have h1 : ¬ (C o b y.at_).1 < 0 := by omega
            have h2 : ¬ (C o b y.at_).1 = 0 := by omega
            simp [h1, h2]
/-- What is in a meeting is in both. -/
theorem in_meet (H : Lawful C) {r s : Rg} (b : List UInt8) (h : (meetR C r s).2 = true) : inR C (meetR C r s).1 b = (inR C r b && inR C s b) := by
  obtain ⟨hr, hs, ho, e⟩ := meet_ok h
  have hm := meet_may h
  obtain ⟨_, h3, h4⟩ := mayR_parts hr
  obtain ⟨_, h5, h6⟩ := mayR_parts hs
  unfold inR
  rw [hm, hr, hs, e, ← ho]
  rw [← ho] at h5 h6
  cases hv : isV C r.o b with
  | false => simp
  | true =>
    simp only [Bool.true_and]
    rw [above_end H h3 h5 hv, below_end H h4 h6 hv]
    cases above C r.o r.lo b <;> cases above C r.o s.lo b <;> cases below C r.o r.hi b <;> cases below C r.o s.hi b <;> rfl
/-- In an empty one there are none. -/
theorem empty_none (H : Lawful C) {r : Rg} (b : List UInt8) (h : emptyR C r = true) : inR C r b = false := by
  unfold emptyR at h
  simp only [Bool.and_eq_true, Bool.or_eq_true, decide_eq_true_eq] at h
  obtain ⟨⟨⟨hm, hl⟩, hh⟩, hc⟩ := h
  obtain ⟨_, h3, h4⟩ := mayR_parts hm
  have vl := mayB_is h3 hl
  have vh := mayB_is h4 hh
  cases hv : isV C r.o b with
  | false => simp [inR, hv]
  | true =>
    cases hi : inR C r b with
    | false => rfl
    | true =>
      exfalso
      unfold inR above below at hi
      rw [hm, hv, hl, hh] at hi
      simp only [Bool.true_and, Bool.not_true, Bool.false_or, Bool.and_eq_true, Bool.or_eq_true, decide_eq_true_eq, Bool.not_eq_true'] at hi
      obtain ⟨h1, h2⟩ := hi
      have s1 := H.swap r.o b r.lo.at_
      have s2 := H.swap r.o r.lo.at_ r.hi.at_
      have t := H.trans r.o r.lo.at_ b r.hi.at_ vl hv vh (by rcases h1 with h1 | h1 <;> omega) (by rcases h2 with h2 | h2 <;> omega)
      rcases hc with hc | ⟨hc, ho⟩
      · omega
      · have e1 := H.same_r hv vl vh hc
        have t2 := H.lt_le vl hv vh
        have t3 := H.le_lt vl hv vh
        rcases ho with ho | ho
        · rcases h1 with h1 | ⟨_, h1⟩
          · have := t2 (by omega) (by rcases h2 with h2 | h2 <;> omega)
            omega
          · rw [ho] at h1; cases h1
        · rcases h2 with h2 | ⟨_, h2⟩
          · have := t3 (by rcases h1 with h1 | h1 <;> omega) h2
            omega
          · rw [ho] at h2; cases h2
theorem sameB_eq {x y : Bd} (h : sameB x y = true) : x = y := by
  obtain ⟨a, b, c⟩ := x
  obtain ⟨d, e, f⟩ := y
  simp [sameB] at h
  simp [h]
theorem sameR_eq {x y : Rg} (h : sameR x y = true) : x = y := by
  obtain ⟨a, b, c⟩ := x
  obtain ⟨d, e, f⟩ := y
  simp only [sameR, Bool.and_eq_true, decide_eq_true_eq] at h
  obtain ⟨⟨h1, h2⟩, h3⟩ := h
  rw [h1, sameB_eq h2, sameB_eq h3]
theorem sameB_refl (x : Bd) : sameB x x = true := by simp [sameB]
theorem sameR_refl (x : Rg) : sameR x x = true := by simp [sameR, sameB_refl]
/-- What is in one that is within another one is in that. -/
theorem within_in (H : Lawful C) {r s : Rg} (b : List UInt8) (h : withinR C r s = true) (hi : inR C r b = true) : inR C s b = true := by
  unfold withinR at h
  simp only [Bool.and_eq_true, Bool.or_eq_true] at h
  obtain ⟨h1, h2⟩ := h
  rcases h2 with h2 | h2
  · rw [empty_none H b h2] at hi; cases hi
  · have := in_meet H b h1
    rw [sameR_eq h2, hi] at this
    simpa using this.symm
theorem endB_self (H : Lawful C) (o : Nat) (x : Bd) (lower : Bool) : endB C o x x lower = x := by
  unfold endB
  cases hx : x.is with
  | false => rw [if_pos rfl]
  | true =>
    rw [if_neg (show ¬ true = false by simp), if_neg (show ¬ true = false by simp), if_pos (H.refl o x.at_)]
    split
    · rfl
    · rfl
theorem within_self (H : Lawful C) {r : Rg} (h : mayR C r = true) : withinR C r r = true := by
  unfold withinR meetR
  rw [if_pos ⟨h, h, rfl⟩]
  simp only [endB_self H, sameR_refl, Bool.or_true, Bool.true_and]
theorem meet_comm_ok (r s : Rg) : (meetR C r s).2 = (meetR C s r).2 := by
  unfold meetR
  by_cases h : mayR C r = true ∧ mayR C s = true ∧ r.o = s.o
  · rw [if_pos h, if_pos ⟨h.2.1, h.1, h.2.2.symm⟩]
  · rw [if_neg h, if_neg (fun h2 => h ⟨h2.2.1, h2.1, h2.2.2.symm⟩)]
/-- Turned round, an end stands the same, and is open as it was. -/
theorem endB_turn (H : Lawful C) {o : Nat} {x y : Bd} (lower : Bool) (hx : mayB C o x = true) (hy : mayB C o y = true) :
    (endB C o x y lower).is = (endB C o y x lower).is ∧ (endB C o x y lower).op = (endB C o y x lower).op ∧ ((endB C o x y lower).is = true → (C o (endB C o x y lower).at_ (endB C o y x lower).at_).1 = 0) := by
  have s := H.swap o x.at_ y.at_
  have rx := H.refl o x.at_
  have ry := H.refl o y.at_
  unfold endB
  cases hxi : x.is with
  | false =>
    cases hyi : y.is with
    | false =>
      have e1 := mayB_not hx hxi
      have e2 := mayB_not hy hyi
      subst e1 e2
      simp [zeroB]
    | true => simp [hxi, hyi, ry]
  | true =>
    cases hyi : y.is with
    | false => simp [hxi, hyi, rx]
    | true =>
      simp only [Bool.true_eq_false, if_false]
      by_cases h0 : (C o x.at_ y.at_).1 = 0
      · have h0' : (C o y.at_ x.at_).1 = 0 := by omega
        rw [if_pos h0, if_pos h0']
        cases hxo : x.op <;> cases hyo : y.op <;> simp [hxi, hyi, hxo, hyo, h0, h0', rx, ry]
      · have h0' : ¬ (C o y.at_ x.at_).1 = 0 := by omega
        rw [if_neg h0, if_neg h0']
        by_cases hg : 0 < (C o x.at_ y.at_).1
        · have hg' : ¬ 0 < (C o y.at_ x.at_).1 := by omega
          cases lower <;> simp [hg, hg', hxi, hyi, rx, ry]
        · have hg' : 0 < (C o y.at_ x.at_).1 := by omega
          cases lower <;> simp [hg, hg', hxi, hyi, rx, ry]
theorem empty_turn (H : Lawful C) (r s : Rg) : emptyR C (meetR C r s).1 = emptyR C (meetR C s r).1 := by
  cases h : (meetR C r s).2 with
  | false =>
    have h2 := (meet_comm_ok (C := C) r s).symm.trans h
    have z : ∀ a b : Rg, (meetR C a b).2 = false → (meetR C a b).1 = zeroR := fun a b hh => by
      unfold meetR at hh ⊢
      split
      · rename_i hc; rw [if_pos hc] at hh; cases hh
      · rfl
    rw [z _ _ h, z _ _ h2]
  | true =>
    have h2 := (meet_comm_ok (C := C) r s).symm.trans h
    obtain ⟨hr, hs, ho, e1⟩ := meet_ok h
    obtain ⟨_, _, _, e2⟩ := meet_ok h2
    have m1 := meet_may h
    have m2 := meet_may h2
    obtain ⟨_, h3, h4⟩ := mayR_parts hr
    obtain ⟨_, h5, h6⟩ := mayR_parts hs
    rw [e1] at m1 ⊢
    rw [e2] at m2 ⊢
    rw [← ho] at h5 h6 m2 ⊢
    obtain ⟨a1, a2, a3⟩ := endB_turn H true h3 h5
    obtain ⟨b1, b2, b3⟩ := endB_turn H false h4 h6
    obtain ⟨_, p1, p2⟩ := mayR_parts m1
    obtain ⟨_, q1, q2⟩ := mayR_parts m2
    simp only at p1 p2 q1 q2
    unfold emptyR
    rw [m1, m2]
    simp only [Bool.true_and]
    generalize endB C r.o r.lo s.lo true = L1 at *
    generalize endB C r.o s.lo r.lo true = L2 at *
    generalize endB C r.o r.hi s.hi false = G1 at *
    generalize endB C r.o s.hi r.hi false = G2 at *
    rw [← a1, ← b1, ← a2, ← b2]
    cases hl : L1.is with
    | false => simp
    | true =>
      cases hg : G1.is with
      | false => simp
      | true =>
        have v1 := mayB_is p1 hl
        have v2 := mayB_is q1 (a1 ▸ hl)
        have v3 := mayB_is p2 hg
        have v4 := mayB_is q2 (b1 ▸ hg)
        have e : (C r.o L1.at_ G1.at_).1 = (C r.o L2.at_ G2.at_).1 := (H.same_l v3 v1 v2 (a3 hl)).trans (H.same_r v2 v3 v4 (b3 hg))
        rw [e]
theorem all_in (o : Nat) (b : List UInt8) : inR C ⟨o, zeroB, zeroB⟩ b = (mayR C ⟨o, zeroB, zeroB⟩ && isV C o b) := by simp [inR, above, below, zeroB]
theorem within_all (r : Rg) : withinR C r ⟨r.o, zeroB, zeroB⟩ = mayR C r := by
  cases h : mayR C r with
  | false => simp [withinR, meetR, h]
  | true =>
    obtain ⟨⟨h1, h2⟩, h3, h4⟩ := mayR_parts h
    have ha : mayR C ⟨r.o, zeroB, zeroB⟩ = true := by
      unfold mayR mayB
      simp [zeroB, h1, h2]
    have e : ∀ (x : Bd) (lower : Bool), mayB C r.o x = true → endB C r.o x zeroB lower = x := fun x lower hx => by
      unfold endB
      cases hxi : x.is with
      | false => rw [if_pos rfl]; exact (mayB_not hx hxi).symm
      | true => rw [if_neg (show ¬ true = false by simp), if_pos (show zeroB.is = false from rfl)]
    unfold withinR meetR
    rw [if_pos ⟨h, ha, rfl⟩]
    simp only [e _ _ h3, e _ _ h4, sameR_refl, Bool.or_true, Bool.true_and]
end Ord11
