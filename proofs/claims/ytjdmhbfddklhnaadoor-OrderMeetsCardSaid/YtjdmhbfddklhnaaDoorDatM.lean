/-
  Plain mathematics of dates: what a date's and a clock's number are, and that dates stand to each other as their texts. No conditions.
-/
import GoSem.Op.String
set_option linter.unusedSimpArgs false
set_option linter.unusedVariables false
namespace Go.Proofs.YtjdmhbfddklhnaaDoor
open Go

namespace Dat
def dg (c : UInt8) : Bool := decide (48 ≤ c.toNat) && decide (c.toNat ≤ 57)
def dv (c : UInt8) : Nat := c.toNat - 48
def pr (a b : UInt8) : Nat := 10 * dv a + dv b
/-- The number of two digits at a place. -/
def two (l : List UInt8) (i : Nat) : Option Nat :=
  match l[i]?, l[i + 1]? with
  | some a, some b => if dg a = true ∧ dg b = true then some (pr a b) else none
  | _, _ => none
def clockV (a b c : Option Nat) : Option Nat :=
  match a, b, c with
  | some h, some m, some s => if h ≤ 23 ∧ m ≤ 59 ∧ s ≤ 59 then some (3600 * h + 60 * m + s) else none
  | _, _, _ => none
def clockR (l : List UInt8) : Option Nat :=
  if l.length = 8 ∧ l[2]? = some 58 ∧ l[5]? = some 58 then clockV (two l 0) (two l 3) (two l 6) else none
def leap (y : Nat) : Bool := decide (y % 400 = 0) || (decide (y % 4 = 0) && !decide (y % 100 = 0))
def plain (m : Nat) : Nat := [31, 28, 31, 30, 31, 30, 31, 31, 30, 31, 30, 31].getD (m - 1) 0
def days (y m : Nat) : Nat := if m = 2 ∧ leap y = true then 29 else plain m
def yearLen (y : Nat) : Nat := 337 + days y 2
def aheadN : Nat → Nat
  | 0 => 0
  | y + 1 => aheadN y + yearLen y
def mo (y : Nat) : Nat → Nat
  | 0 => 0
  | 1 => 0
  | m + 2 => mo y (m + 1) + days y (m + 1)
def dateV (a b p q r : Option Nat) : Option Nat :=
  match a, b, p, q, r with
  | some c, some e, some m, some d, some n =>
    if 1 ≤ m ∧ m ≤ 12 ∧ 1 ≤ d ∧ d ≤ days (100 * c + e) m then some ((aheadN (100 * c + e) + mo (100 * c + e) m + (d - 1)) * 86400 + n) else none
  | _, _, _, _, _ => none
def dateR (l : List UInt8) : Option Nat :=
  if l.length = 19 ∧ l[4]? = some 45 ∧ l[7]? = some 45 ∧ l[10]? = some 95 then dateV (two l 0) (two l 2) (two l 5) (two l 8) (clockR (l.drop 11)) else none

theorem dv_lt {c : UInt8} (h : dg c = true) : dv c < 10 ∧ c.toNat = dv c + 48 := by
  simp [dg] at h
  unfold dv; omega
theorem dv_inj {a b : UInt8} (ha : dg a = true) (hb : dg b = true) (h : dv a = dv b) : a = b := by
  have := (dv_lt ha).2; have := (dv_lt hb).2
  exact UInt8.toNat_inj.1 (by omega)
theorem pr_inj {a b c d : UInt8} (ha : dg a = true) (hb : dg b = true) (hc : dg c = true) (hd : dg d = true) (h : pr a b = pr c d) : a = c ∧ b = d := by
  have := (dv_lt ha).1; have := (dv_lt hb).1; have := (dv_lt hc).1; have := (dv_lt hd).1
  unfold pr at h
  exact ⟨dv_inj ha hc (by omega), dv_inj hb hd (by omega)⟩
theorem pr_le {a b : UInt8} (ha : dg a = true) (hb : dg b = true) : pr a b ≤ 99 := by
  have := (dv_lt ha).1; have := (dv_lt hb).1
  unfold pr; omega

theorem two_some {l : List UInt8} {i v : Nat} (h : two l i = some v) : ∃ a b, l[i]? = some a ∧ l[i + 1]? = some b ∧ dg a = true ∧ dg b = true ∧ v = pr a b := by
  unfold two at h
  split at h
  · rename_i a b ea eb
    split at h
    · rename_i hd
      injection h with h
      exact ⟨a, b, ea, eb, hd.1, hd.2, h.symm⟩
    · cases h
  · cases h

theorem clock_form {l : List UInt8} {x : Nat} (h : clockR l = some x) : ∃ h1 h2 m1 m2 s1 s2 : UInt8, l = [h1, h2, 58, m1, m2, 58, s1, s2] ∧ (dg h1 = true ∧ dg h2 = true ∧ dg m1 = true ∧ dg m2 = true ∧ dg s1 = true ∧ dg s2 = true) ∧
    pr h1 h2 ≤ 23 ∧ pr m1 m2 ≤ 59 ∧ pr s1 s2 ≤ 59 ∧ x = 3600 * pr h1 h2 + 60 * pr m1 m2 + pr s1 s2 := by
  unfold clockR at h
  split at h
  · rename_i hc
    obtain ⟨hl, h2, h5⟩ := hc
    match l, hl with
    | [a, b, c, d, e, f, g, k], _ =>
      simp only [List.getElem?_cons_succ, List.getElem?_cons_zero, Option.some.injEq] at h2 h5
      subst h2 h5
      unfold clockV at h
      split at h
      · rename_i H M S e1 e2 e3
        obtain ⟨a1, b1, p1, p2, p3, p4, rfl⟩ := two_some e1
        obtain ⟨a2, b2, q1, q2, q3, q4, rfl⟩ := two_some e2
        obtain ⟨a3, b3, r1, r2, r3, r4, rfl⟩ := two_some e3
        simp only [List.getElem?_cons_succ, List.getElem?_cons_zero, Option.some.injEq] at p1 p2 q1 q2 r1 r2
        subst p1 p2 q1 q2 r1 r2
        split at h
        · rename_i hb
          injection h with h
          exact ⟨a, b, d, e, g, k, rfl, ⟨p3, p4, q3, q4, r3, r4⟩, hb.1, hb.2.1, hb.2.2, h.symm⟩
        · cases h
      · cases h
  · cases h

/-- The signs of a date. -/
structure Sg where
  (y1 y2 y3 y4 m1 m2 d1 d2 h1 h2 i1 i2 s1 s2 : UInt8)
def Sg.text (g : Sg) : List UInt8 := [g.y1, g.y2, g.y3, g.y4, 45, g.m1, g.m2, 45, g.d1, g.d2, 95, g.h1, g.h2, 58, g.i1, g.i2, 58, g.s1, g.s2]
def Sg.year (g : Sg) : Nat := 100 * pr g.y1 g.y2 + pr g.y3 g.y4
def Sg.clock (g : Sg) : Nat := 3600 * pr g.h1 g.h2 + 60 * pr g.i1 g.i2 + pr g.s1 g.s2
def Sg.day (g : Sg) : Nat := mo g.year (pr g.m1 g.m2) + (pr g.d1 g.d2 - 1)
def Sg.num (g : Sg) : Nat := (aheadN g.year + g.day) * 86400 + g.clock
structure Sg.Ok (g : Sg) : Prop where
  y12 : dg g.y1 = true ∧ dg g.y2 = true
  y34 : dg g.y3 = true ∧ dg g.y4 = true
  m : dg g.m1 = true ∧ dg g.m2 = true
  d : dg g.d1 = true ∧ dg g.d2 = true
  h : dg g.h1 = true ∧ dg g.h2 = true
  i : dg g.i1 = true ∧ dg g.i2 = true
  s : dg g.s1 = true ∧ dg g.s2 = true
  mb : 1 ≤ pr g.m1 g.m2 ∧ pr g.m1 g.m2 ≤ 12
  db : 1 ≤ pr g.d1 g.d2 ∧ pr g.d1 g.d2 ≤ days g.year (pr g.m1 g.m2)
  hb : pr g.h1 g.h2 ≤ 23
  ib : pr g.i1 g.i2 ≤ 59
  sb : pr g.s1 g.s2 ≤ 59

theorem date_form {l : List UInt8} {x : Nat} (h : dateR l = some x) : ∃ g : Sg, g.Ok ∧ l = g.text ∧ x = g.num := by
  unfold dateR at h
  split at h
  · rename_i hc
    obtain ⟨hl, h4, h7, h10⟩ := hc
    match l, hl with
    | [a0, a1, a2, a3, a4, a5, a6, a7, a8, a9, a10, a11, a12, a13, a14, a15, a16, a17, a18], _ =>
      simp only [List.getElem?_cons_succ, List.getElem?_cons_zero, Option.some.injEq] at h4 h7 h10
      subst h4 h7 h10
      unfold dateV at h
      split at h
      · rename_i c e m d n e1 e2 e3 e4 e5
        obtain ⟨_, _, p1, p2, p3, p4, rfl⟩ := two_some e1
        obtain ⟨_, _, q1, q2, q3, q4, rfl⟩ := two_some e2
        obtain ⟨_, _, r1, r2, r3, r4, rfl⟩ := two_some e3
        obtain ⟨_, _, s1, s2, s3, s4, rfl⟩ := two_some e4
        simp only [List.getElem?_cons_succ, List.getElem?_cons_zero, Option.some.injEq] at p1 p2 q1 q2 r1 r2 s1 s2
        subst p1 p2 q1 q2 r1 r2 s1 s2
        obtain ⟨h1, h2, i1, i2, s1, s2, t1, ⟨t2, t3, t4, t5, t6, t7⟩, t8, t9, t10, rfl⟩ := clock_form e5
        have t1' : [a11, a12, a13, a14, a15, a16, a17, a18] = [h1, h2, 58, i1, i2, 58, s1, s2] := t1
        injection t1' with u1 t1'
        injection t1' with u2 t1'
        injection t1' with u3 t1'
        injection t1' with u4 t1'
        injection t1' with u5 t1'
        injection t1' with u6 t1'
        injection t1' with u7 t1'
        injection t1' with u8 t1'
        subst u1 u2 u3 u4 u5 u6 u7 u8
        split at h
        · rename_i hb
          injection h with h
          exact ⟨⟨a0, a1, a2, a3, a5, a6, a8, a9, a11, a12, a14, a15, a17, a18⟩, ⟨⟨p3, p4⟩, ⟨q3, q4⟩, ⟨r3, r4⟩, ⟨s3, s4⟩, ⟨t2, t3⟩, ⟨t4, t5⟩, ⟨t6, t7⟩, ⟨hb.1, hb.2.1⟩, ⟨hb.2.2.1, hb.2.2.2⟩, t8, t9, t10⟩, rfl, by rw [← h]; show _ = (_ + (_ + _)) * 86400 + _; rw [Nat.add_assoc]; rfl⟩
        · cases h
      · cases h
  · cases h

theorem clock_of {h1 h2 m1 m2 s1 s2 : UInt8} (a : dg h1 = true ∧ dg h2 = true) (b : dg m1 = true ∧ dg m2 = true) (c : dg s1 = true ∧ dg s2 = true) (d : pr h1 h2 ≤ 23) (e : pr m1 m2 ≤ 59) (f : pr s1 s2 ≤ 59) :
    clockR [h1, h2, 58, m1, m2, 58, s1, s2] = some (3600 * pr h1 h2 + 60 * pr m1 m2 + pr s1 s2) := by
  have t1 : two [h1, h2, 58, m1, m2, 58, s1, s2] 0 = some (pr h1 h2) := by show (if dg h1 = true ∧ dg h2 = true then _ else _) = _; rw [if_pos a]
  have t2 : two [h1, h2, 58, m1, m2, 58, s1, s2] 3 = some (pr m1 m2) := by show (if dg m1 = true ∧ dg m2 = true then _ else _) = _; rw [if_pos b]
  have t3 : two [h1, h2, 58, m1, m2, 58, s1, s2] 6 = some (pr s1 s2) := by show (if dg s1 = true ∧ dg s2 = true then _ else _) = _; rw [if_pos c]
  unfold clockR
  rw [if_pos ⟨rfl, rfl, rfl⟩, t1, t2, t3]
  unfold clockV
  dsimp only
  rw [if_pos ⟨d, e, f⟩]

theorem date_of {g : Sg} (h : g.Ok) : dateR g.text = some g.num := by
  have t1 : two g.text 0 = some (pr g.y1 g.y2) := by show (if dg g.y1 = true ∧ dg g.y2 = true then _ else _) = _; rw [if_pos h.y12]
  have t2 : two g.text 2 = some (pr g.y3 g.y4) := by show (if dg g.y3 = true ∧ dg g.y4 = true then _ else _) = _; rw [if_pos h.y34]
  have t3 : two g.text 5 = some (pr g.m1 g.m2) := by show (if dg g.m1 = true ∧ dg g.m2 = true then _ else _) = _; rw [if_pos h.m]
  have t4 : two g.text 8 = some (pr g.d1 g.d2) := by show (if dg g.d1 = true ∧ dg g.d2 = true then _ else _) = _; rw [if_pos h.d]
  have t5 : clockR (g.text.drop 11) = some g.clock := clock_of h.h h.i h.s h.hb h.ib h.sb
  unfold dateR
  rw [if_pos ⟨rfl, rfl, rfl, rfl⟩, t1, t2, t3, t4, t5]
  unfold dateV
  dsimp only
  rw [if_pos ⟨h.mb.1, h.mb.2, h.db.1, h.db.2⟩]
  show some ((aheadN g.year + mo g.year _ + _) * 86400 + _) = some ((aheadN g.year + (mo g.year _ + _)) * 86400 + _)
  rw [Nat.add_assoc]

theorem days_le (y m : Nat) : days y m ≤ 31 := by
  unfold days plain
  split
  · omega
  · rcases m with _ | _ | _ | _ | _ | _ | _ | _ | _ | _ | _ | _ | _ | m <;> simp
theorem mo13 (y : Nat) : mo y 13 = yearLen y := by
  have h : ∀ m, m ≠ 2 → days y m = plain m := fun m hm => by unfold days; rw [if_neg (fun h => hm h.1)]
  simp only [mo, yearLen]
  rw [h 1 (by decide), h 3 (by decide), h 4 (by decide), h 5 (by decide), h 6 (by decide), h 7 (by decide), h 8 (by decide), h 9 (by decide), h 10 (by decide), h 11 (by decide), h 12 (by decide)]
  simp [plain]; omega
theorem mo_step (y : Nat) {m : Nat} (h : 1 ≤ m) : mo y (m + 1) = mo y m + days y m := by
  obtain ⟨k, rfl⟩ : ∃ k, m = k + 1 := ⟨m - 1, by omega⟩
  rfl
theorem mo_mono (y : Nat) {m : Nat} (h : 1 ≤ m) : ∀ d, mo y m + (if d = 0 then 0 else days y m) ≤ mo y (m + d)
  | 0 => by simp
  | d + 1 => by
    have ih := mo_mono y h d
    rw [if_neg (by omega), show m + (d + 1) = (m + d) + 1 by omega, mo_step y (by omega)]
    by_cases h0 : d = 0
    · subst h0; simp
    · rw [if_neg h0] at ih; omega
theorem mo_lt (y : Nat) {m m' : Nat} (h : 1 ≤ m) (hlt : m < m') : mo y m + days y m ≤ mo y m' := by
  have := mo_mono y h (m' - m)
  rw [if_neg (by omega), show m + (m' - m) = m' by omega] at this
  exact this
theorem ahead_mono (y : Nat) : ∀ d, aheadN y + (if d = 0 then 0 else yearLen y) ≤ aheadN (y + d)
  | 0 => by simp
  | d + 1 => by
    have ih := ahead_mono y d
    rw [if_neg (by omega), show y + (d + 1) = (y + d) + 1 by omega, aheadN]
    by_cases h0 : d = 0
    · subst h0; simp
    · rw [if_neg h0] at ih; omega
theorem ahead_lt {y y' : Nat} (hlt : y < y') : aheadN y + yearLen y ≤ aheadN y' := by
  have := ahead_mono y (y' - y)
  rw [if_neg (by omega), show y + (y' - y) = y' by omega] at this
  exact this
theorem leap_period (y : Nat) : leap (400 + y) = leap y := by
  unfold leap
  have h1 : (400 + y) % 400 = y % 400 := by omega
  have h2 : (400 + y) % 4 = y % 4 := by omega
  have h3 : (400 + y) % 100 = y % 100 := by omega
  rw [h1, h2, h3]
theorem ahead_400 : aheadN 400 = 146097 := by decide +kernel
theorem ahead_more : ∀ r, aheadN (400 + r) = 146097 + aheadN r
  | 0 => ahead_400
  | r + 1 => by
    rw [show 400 + (r + 1) = (400 + r) + 1 by omega, aheadN, aheadN, ahead_more r]
    have : yearLen (400 + r) = yearLen r := by unfold yearLen days; rw [leap_period]
    omega
theorem ahead_period : ∀ q r, aheadN (400 * q + r) = 146097 * q + aheadN r
  | 0, r => by simp
  | q + 1, r => by
    rw [show 400 * (q + 1) + r = 400 + (400 * q + r) by omega, ahead_more, ahead_period q r]; omega
theorem ahead_10000 : aheadN 10000 = 3652425 := ahead_period 25 0

theorem Sg.Ok.year_lt {g : Sg} (h : g.Ok) : g.year < 10000 := by
  have := pr_le h.y12.1 h.y12.2; have := pr_le h.y34.1 h.y34.2
  unfold Sg.year; omega
theorem Sg.Ok.clock_lt {g : Sg} (h : g.Ok) : g.clock < 86400 := by
  have := h.hb; have := h.ib; have := h.sb
  unfold Sg.clock; omega
theorem Sg.Ok.day_lt {g : Sg} (h : g.Ok) : g.day < yearLen g.year := by
  have h1 := mo_lt g.year h.mb.1 (show pr g.m1 g.m2 < 13 from by have := h.mb.2; omega)
  rw [mo13] at h1
  have := h.db
  unfold Sg.day; omega
theorem Sg.Ok.num_lt {g : Sg} (h : g.Ok) : g.num < 315569520000 := by
  have h1 := ahead_lt h.year_lt
  rw [ahead_10000] at h1
  have := h.day_lt; have := h.clock_lt
  unfold Sg.num; omega
theorem date_lt {l : List UInt8} {x : Nat} (h : dateR l = some x) : x < 315569520000 := by
  obtain ⟨g, hg, _, rfl⟩ := date_form h
  exact hg.num_lt

theorem less_total : ∀ a b : List UInt8, Op.bytesLess a b = true ∨ a = b ∨ Op.bytesLess b a = true
  | [], [] => .inr (.inl rfl)
  | [], _ :: _ => .inl rfl
  | _ :: _, [] => .inr (.inr rfl)
  | a :: x, b :: y => by
    unfold Op.bytesLess
    simp only [Bool.or_eq_true, decide_eq_true_eq, Bool.and_eq_true, beq_iff_eq]
    rcases Nat.lt_trichotomy a.toNat b.toNat with h | h | h
    · exact .inl (.inl (UInt8.lt_iff_toNat_lt.2 h))
    · have e : a = b := UInt8.toNat_inj.1 h
      subst e
      rcases less_total x y with h | h | h
      · exact .inl (.inr ⟨rfl, h⟩)
      · exact .inr (.inl (by rw [h]))
      · exact .inr (.inr (.inr ⟨rfl, h⟩))
    · exact .inr (.inr (.inl (UInt8.lt_iff_toNat_lt.2 h)))

theorem less_pair {a1 a2 b1 b2 : UInt8} {x y : List UInt8} (ha1 : dg a1 = true) (ha2 : dg a2 = true) (hb1 : dg b1 = true) (hb2 : dg b2 = true) (h : Op.bytesLess (a1 :: a2 :: x) (b1 :: b2 :: y) = true) :
    pr a1 a2 < pr b1 b2 ∨ (pr a1 a2 = pr b1 b2 ∧ Op.bytesLess x y = true) := by
  unfold Op.bytesLess at h
  unfold Op.bytesLess at h
  simp only [Bool.or_eq_true, decide_eq_true_eq, Bool.and_eq_true, beq_iff_eq, UInt8.lt_iff_toNat_lt] at h
  have q1 := dv_lt ha1; have q2 := dv_lt ha2; have q3 := dv_lt hb1; have q4 := dv_lt hb2
  unfold pr
  rcases h with h | ⟨rfl, h | ⟨rfl, h⟩⟩
  · exact .inl (by omega)
  · exact .inl (by omega)
  · exact .inr ⟨rfl, h⟩
theorem less_same {c : UInt8} {x y : List UInt8} (h : Op.bytesLess (c :: x) (c :: y) = true) : Op.bytesLess x y = true := by
  unfold Op.bytesLess at h
  simpa [UInt8.lt_iff_toNat_lt] using h

theorem text_less {g k : Sg} (hg : g.Ok) (hk : k.Ok) (h : Op.bytesLess g.text k.text = true) : g.num < k.num := by
  have cg := hg.clock_lt; have ck := hk.clock_lt
  have dg' := hg.day_lt; have dk := hk.day_lt
  have bg34 := pr_le hg.y34.1 hg.y34.2; have bk34 := pr_le hk.y34.1 hk.y34.2
  have byear : g.year < k.year → g.num < k.num := fun hy => by
    have := ahead_lt hy
    unfold Sg.num; omega
  rcases less_pair hg.y12.1 hg.y12.2 hk.y12.1 hk.y12.2 h with h1 | ⟨e1, h⟩
  · exact byear (by unfold Sg.year; omega)
  rcases less_pair hg.y34.1 hg.y34.2 hk.y34.1 hk.y34.2 h with h1 | ⟨e2, h⟩
  · exact byear (by unfold Sg.year; omega)
  have ey : g.year = k.year := by unfold Sg.year; rw [e1, e2]
  have bday : g.day < k.day → g.num < k.num := fun hd => by
    unfold Sg.num; rw [ey]; omega
  rcases less_pair hg.m.1 hg.m.2 hk.m.1 hk.m.2 (less_same h) with h1 | ⟨e3, h⟩
  · refine bday ?_
    have := mo_lt g.year hg.mb.1 h1
    have := hg.db
    unfold Sg.day; rw [← ey]; omega
  rcases less_pair hg.d.1 hg.d.2 hk.d.1 hk.d.2 (less_same h) with h1 | ⟨e4, h⟩
  · refine bday ?_
    have := hg.db
    unfold Sg.day; rw [ey, e3]; omega
  have ed : g.day = k.day := by unfold Sg.day; rw [ey, e3, e4]
  have bclock : g.clock < k.clock → g.num < k.num := fun hc => by unfold Sg.num; rw [ey, ed]; omega
  have := hg.ib; have := hg.sb
  rcases less_pair hg.h.1 hg.h.2 hk.h.1 hk.h.2 (less_same h) with h1 | ⟨e5, h⟩
  · exact bclock (by unfold Sg.clock; omega)
  rcases less_pair hg.i.1 hg.i.2 hk.i.1 hk.i.2 (less_same h) with h1 | ⟨e6, h⟩
  · exact bclock (by unfold Sg.clock; omega)
  rcases less_pair hg.s.1 hg.s.2 hk.s.1 hk.s.2 (less_same h) with h1 | ⟨e7, h⟩
  · exact bclock (by unfold Sg.clock; omega)
  cases h

theorem date_less {a b : List UInt8} {x y : Nat} (ha : dateR a = some x) (hb : dateR b = some y) : Op.bytesLess a b = decide (x < y) ∧ (a = b ↔ x = y) := by
  obtain ⟨g, hg, rfl, rfl⟩ := date_form ha
  obtain ⟨k, hk, rfl, rfl⟩ := date_form hb
  rcases less_total g.text k.text with h | h | h
  · have := text_less hg hk h
    refine ⟨by rw [h, decide_eq_true this], ⟨fun e => ?_, fun e => by omega⟩⟩
    exact Option.some.inj (ha.symm.trans ((congrArg dateR e).trans hb))
  · have e : g.num = k.num := Option.some.inj (ha.symm.trans ((congrArg dateR h).trans hb))
    refine ⟨?_, fun _ => e, fun _ => h⟩
    rw [decide_eq_false (by omega)]
    cases hl : Op.bytesLess g.text k.text with
    | false => rfl
    | true => have := text_less hg hk hl; omega
  · have := text_less hk hg h
    refine ⟨?_, ⟨fun e => ?_, fun e => by omega⟩⟩
    · rw [decide_eq_false (by omega)]
      cases hl : Op.bytesLess g.text k.text with
      | false => rfl
      | true => have := text_less hg hk hl; omega
    · have := Option.some.inj (ha.symm.trans ((congrArg dateR e).trans hb)); omega

theorem date_clock {l : List UInt8} {x : Nat} (h : dateR l = some x) : clockR (l.drop 11) = some (x % 86400) := by
  obtain ⟨g, hg, rfl, rfl⟩ := date_form h
  have t5 : clockR (g.text.drop 11) = some g.clock := clock_of hg.h hg.i hg.s hg.hb hg.ib hg.sb
  rw [t5]
  have := hg.clock_lt
  unfold Sg.num
  congr 1; omega

theorem clock_inj {a b : List UInt8} {x : Nat} (ha : clockR a = some x) (hb : clockR b = some x) : a = b := by
  obtain ⟨h1, h2, m1, m2, s1, s2, rfl, ⟨t2, t3, t4, t5, t6, t7⟩, t8, t9, t10, rfl⟩ := clock_form ha
  obtain ⟨k1, k2, n1, n2, r1, r2, rfl, ⟨u2, u3, u4, u5, u6, u7⟩, u8, u9, u10, hx⟩ := clock_form hb
  obtain ⟨rfl, rfl⟩ := pr_inj t2 t3 u2 u3 (by omega)
  obtain ⟨rfl, rfl⟩ := pr_inj t4 t5 u4 u5 (by omega)
  obtain ⟨rfl, rfl⟩ := pr_inj t6 t7 u6 u7 (by omega)
  rfl
theorem date_len {l : List UInt8} {x : Nat} (h : dateR l = some x) : l.length = 19 := by
  obtain ⟨g, hg, rfl, rfl⟩ := date_form h
  rfl
theorem clock_lt {l : List UInt8} {x : Nat} (h : clockR l = some x) : x < 86400 := by
  obtain ⟨h1, h2, m1, m2, s1, s2, rfl, _, t8, t9, t10, rfl⟩ := clock_form h
  omega
end Dat
end Go.Proofs.YtjdmhbfddklhnaaDoor
