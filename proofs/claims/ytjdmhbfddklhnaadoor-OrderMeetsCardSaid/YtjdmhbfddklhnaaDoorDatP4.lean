/-
  The program's package date: Clock and Get. No conditions but a slice's own.
-/
import Derived.Test.YtjdmhbfddklhnaaDoorDatP3
import Derived.Deep.QuietTactic
import Derived.BigQuiet
set_option linter.unusedSimpArgs false
set_option linter.unusedVariables false
set_option maxRecDepth 100000
namespace Go.Proofs.YtjdmhbfddklhnaaDoor
open Go Go.Proofs Go.RowKit Dat

theorem clockS_list : (⟨#[48, 48, 58, 48, 48, 58, 48, 48]⟩ : ByteArray).toList = clockS := by rw [Lib.toList_data]; rfl
theorem dateS_list : (⟨#[48, 48, 48, 48, 45, 48, 48, 45, 48, 48, 95, 48, 48, 58, 48, 48, 58, 48, 48]⟩ : ByteArray).toList = dateS := by rw [Lib.toList_data]; rfl

theorem clock_some {l : List UInt8} (hl : l.length = 8) {xs : List Nat} (h : numsR clockS l [] 0 = some xs) : ∃ a b c, xs = [a, b, c] ∧ a ≤ 99 ∧ b ≤ 99 ∧ c ≤ 99 := by
  match l, hl with
  | [a, b, c, d, e, f, g, k], _ =>
    rw [nums_clock] at h
    split at h
    · rename_i hc
      injection h with h
      exact ⟨_, _, _, h.symm, pr_le hc.1 hc.2.1, pr_le hc.2.2.2.1 hc.2.2.2.2.1, pr_le hc.2.2.2.2.2.2.1 hc.2.2.2.2.2.2.2⟩
    · cases h
theorem date_some {l : List UInt8} (hl : l.length = 19) {xs : List Nat} (h : numsR dateS l [] 0 = some xs) : ∃ y m d a b c, xs = [y, m, d, a, b, c] ∧ y ≤ 9999 ∧ m ≤ 99 ∧ d ≤ 99 ∧ a ≤ 99 ∧ b ≤ 99 ∧ c ≤ 99 := by
  match l, hl with
  | [a0, a1, a2, a3, a4, a5, a6, a7, a8, a9, a10, a11, a12, a13, a14, a15, a16, a17, a18], _ =>
    obtain ⟨hp, hn⟩ := nums_date a0 a1 a2 a3 a4 a5 a6 a7 a8 a9 a10 a11 a12 a13 a14 a15 a16 a17 a18
    by_cases hc : dateAll [a0, a1, a2, a3, a4, a5, a6, a7, a8, a9, a10, a11, a12, a13, a14, a15, a16, a17, a18]
    · rw [hp hc] at h
      injection h with h
      obtain ⟨g0, g1, g2, g3, _, g5, g6, _, g8, g9, _, g11, g12, _, g14, g15, _, g17, g18⟩ := hc
      have := pr_le g0 g1; have := pr_le g2 g3
      exact ⟨_, _, _, _, _, _, h.symm, by omega, pr_le g5 g6, pr_le g8 g9, pr_le g11 g12, pr_le g14 g15, pr_le g17 g18⟩
    · rw [hn hc] at h; cases h
theorem clock_all (l : List UInt8) : clockR l = clockOf (if l.length = 8 then numsR clockS l [] 0 else none) := by
  by_cases h : l.length = 8
  · rw [if_pos h, clock_nums h]
  · rw [if_neg h, clock_short h]; rfl
theorem date_all (l : List UInt8) : dateR l = dateOf (if l.length = 19 then numsR dateS l [] 0 else none) := by
  by_cases h : l.length = 19
  · rw [if_pos h, date_nums h]
  · rw [if_neg h, date_short h]; rfl
theorem dat_drewN {B k : Nat} {a w : World} (h : Below B a w) : Below B a (w.drewN k) := ⟨h.os, h.tape, h.output, h.size, h.block⟩
theorem dayN_le {y m d v : Nat} (hy : y ≤ 9999) (h : dayN y m d = some v) : v ≤ 4000000 := by
  unfold dayN at h
  split at h
  · rename_i hc
    injection h with h
    have := ahead_top (show y ≤ 10000 by omega); have := mo_top y hc.1 (show m ≤ 13 by omega); have := days_le y m
    omega
  · cases h
theorem clockN_le {h m s v : Nat} (e : clockN h m s = some v) : v ≤ 86400 := by
  unfold clockN at e
  split at e
  · injection e with e; omega
  · cases e
theorem icell {w : World} {B : Nat} {g n j : Nat} {xs : List Nat} {v : Nat} (h : Reads w B 1 (some ⟨g, 0, none⟩) n (iCells xs)) (hn : 0 < n) (hj : xs[j]? = some v) : w.cell? ⟨g, j, none⟩ = some (.int .i64 (v : Int)) := by
  obtain ⟨ad, e, _, hc⟩ := h.2 hn
  injection e with e
  subst e
  have := hc j (.int .i64 (v : Int)) (by simp [iCells, hj])
  rwa [show (⟨g, 0, none⟩ : Addr).add j = ⟨g, j, none⟩ from by unfold Addr.add; split <;> simp_all] at this

set_option maxHeartbeats 400000 in
theorem pClock_any (A : Option Addr) (n c : Nat) (l : List UInt8) (w : World) (hr : Reads w w.heap.size 1 A n (Lib.byteCells l)) (hn : n ≤ 9223372036854775807) :
    Calls Tryd.prog 42 #[.slice A n c] w fun e w' => OptEnd (clockR l) w e w' := by
  have hl : l.length = n := by have := hr.1; simpa [Lib.byteCells_length] using this
  obtain ⟨r, hR⟩ : ∃ r, r = clockR l := ⟨_, rfl⟩
  have hA := clock_all l
  rw [← hR] at hA ⊢
  rw [hl] at hA
  obtain ⟨q, hq⟩ : ∃ q, q = (if n = 8 then numsR clockS l [] 0 else none) := ⟨_, rfl⟩
  rw [← hq] at hA
  have K : Hid (∀ w, Reads w w.heap.size 1 A n (Lib.byteCells l) → Calls Tryd.prog 57 #[.slice A n c, .string ⟨#[48, 48, 58, 48, 48, 58, 48, 48]⟩] w fun e w' => NumsEnd q w e w') := by
    intro w hr
    have h := numbers_any A n c l ⟨#[48, 48, 58, 48, 48, 58, 48, 48]⟩ w hr hn (by decide) (by rw [clockS_list]; exact fits_clock) (by rw [clockS_list]; decide)
    rw [clockS_list] at h
    have e : (⟨#[48, 48, 58, 48, 48, 58, 48, 48]⟩ : ByteArray).size = 8 := rfl
    rw [e, ← hq] at h
    exact h
  cases hx : q with
  | none =>
    rw [hx] at hA K
    have hA' : r = none := hA
    subst hA'
    clear hA hq hx hR hl
    go_enter Tryd.func42, Tryd.ntmps42
    go_wp2_with (go_at_call 57; refine (K.out _ hr).mono ?_; rintro e w1 ⟨hb, h1, _⟩; obtain rfl := h1 rfl)
    go_ret2
    exact ⟨rfl, ‹_›⟩
  | some xs =>
    have hn8 : n = 8 := by
      rcases Nat.decEq n 8 with h | h
      · rw [hq, if_neg h] at hx; cases hx
      · exact h
    rw [hx] at hq
    rw [if_pos hn8] at hq
    obtain ⟨a, b, d, rfl, ha, hb, hd⟩ := clock_some (by rw [hl, hn8]) hq.symm
    rw [hx] at hA K
    have hA' : r = clockN a b d := hA
    have HA := Lib.hid hA'
    obtain ⟨vv, kk, he, _, _⟩ := opt_parts r
    have KC : Hid (∀ w, Calls Tryd.prog 58 #[.int .i64 a, .int .i64 b, .int .i64 d] w fun e w' => e = .returned (.tuple #[.int .i64 (vv : Int), .bool kk]) ∧ w' = w) := fun w => by rw [← he, hA']; exact pClockN_any a b d w (by omega) (by omega) (by omega)
    have HE := Lib.hid he
    clear hA hA' hq hx hR hl he hn8
    go_enter Tryd.func42, Tryd.ntmps42
    go_upto_region 4 with (go_at_call 57; refine (K.out _ hr).mono ?_; rintro e w1 ⟨hb, _, h1⟩; have h2 := h1 [a, b, d] rfl; clear h1; obtain ⟨g, c1, h3, hg, hrd⟩ := h2; subst h3; have HRD := Lib.hid hrd; have HB := Lib.hid hb; clear hb hrd)
    have c0 := icell (j := 0) HRD.out (by simp) rfl
    have c1 := icell (j := 1) HRD.out (by simp) rfl
    have c2 := icell (j := 2) HRD.out (by simp) rfl
    go_quiet ((go_at_call 58; exact Calls.quiet_of_same (KC.out _)))
    go_wp2
    go_ret2
    exact ⟨by rw [HE.out]; rfl, dat_drewN HB.out⟩

set_option maxHeartbeats 4000000 in
theorem pGet_any (A : Option Addr) (n c : Nat) (l : List UInt8) (w : World) (hr : Reads w w.heap.size 1 A n (Lib.byteCells l)) (hn : n ≤ 9223372036854775807) :
    Calls Tryd.prog 44 #[.slice A n c] w fun e w' => OptEnd (dateR l) w e w' := by
  have hl : l.length = n := by have := hr.1; simpa [Lib.byteCells_length] using this
  obtain ⟨r, hR⟩ : ∃ r, r = dateR l := ⟨_, rfl⟩
  have hA := date_all l
  rw [← hR] at hA ⊢
  rw [hl] at hA
  obtain ⟨q, hq⟩ : ∃ q, q = (if n = 19 then numsR dateS l [] 0 else none) := ⟨_, rfl⟩
  rw [← hq] at hA
  have K : Hid (∀ w, Reads w w.heap.size 1 A n (Lib.byteCells l) → Calls Tryd.prog 57 #[.slice A n c, .string ⟨#[48, 48, 48, 48, 45, 48, 48, 45, 48, 48, 95, 48, 48, 58, 48, 48, 58, 48, 48]⟩] w fun e w' => NumsEnd q w e w') := by
    intro w hr
    have h := numbers_any A n c l ⟨#[48, 48, 48, 48, 45, 48, 48, 45, 48, 48, 95, 48, 48, 58, 48, 48, 58, 48, 48]⟩ w hr hn (by decide) (by rw [dateS_list]; exact fits_date) (by rw [dateS_list]; decide)
    rw [dateS_list] at h
    have e : (⟨#[48, 48, 48, 48, 45, 48, 48, 45, 48, 48, 95, 48, 48, 58, 48, 48, 58, 48, 48]⟩ : ByteArray).size = 19 := rfl
    rw [e, ← hq] at h
    exact h
  cases hx : q with
  | none =>
    rw [hx] at hA K
    have hA' : r = none := hA
    subst hA'
    clear hA hq hx hR hl
    go_enter Tryd.func44, Tryd.ntmps44
    go_wp2_with (go_at_call 57; refine (K.out _ hr).mono ?_; rintro e w1 ⟨hb, h1, _⟩; obtain rfl := h1 rfl)
    go_ret2
    exact ⟨rfl, ‹_›⟩
  | some xs =>
    have hn8 : n = 19 := by
      rcases Nat.decEq n 19 with h | h
      · rw [hq, if_neg h] at hx; cases hx
      · exact h
    rw [hx] at hq
    rw [if_pos hn8] at hq
    obtain ⟨y, m, d, a, b, s, rfl, hy, hm, hd, ha, hb, hs⟩ := date_some (by rw [hl, hn8]) hq.symm
    rw [hx] at hA K
    have hA' : r = dateN y m d a b s := hA
    have HA := Lib.hid hA'
    obtain ⟨v1, k1, e1, x1, z1⟩ := opt_parts (dayN y m d)
    obtain ⟨v2, k2, e2, x2, z2⟩ := opt_parts (clockN a b s)
    have KD : Hid (∀ w, Calls Tryd.prog 61 #[.int .i64 y, .int .i64 m, .int .i64 d] w fun e w' => e = .returned (.tuple #[.int .i64 (v1 : Int), .bool k1]) ∧ w' = w) := fun w => by rw [← e1]; exact pDayN_any y m d w (by omega) (by omega) (by omega)
    have KC : Hid (∀ w, Calls Tryd.prog 58 #[.int .i64 a, .int .i64 b, .int .i64 s] w fun e w' => e = .returned (.tuple #[.int .i64 (v2 : Int), .bool k2]) ∧ w' = w) := fun w => by rw [← e2]; exact pClockN_any a b s w (by omega) (by omega) (by omega)
    have hv1 : v1 ≤ 4000000 := by
      cases k1 with
      | false => rw [z1 rfl]; omega
      | true => exact dayN_le hy x1
    have hv2 : v2 ≤ 86400 := by
      cases k2 with
      | false => rw [z2 rfl]; omega
      | true => exact clockN_le x2
    have HR : Hid (r = if k1 = true ∧ k2 = true then some (v1 * 86400 + v2) else none) := by
      show _ = _
      rw [hA']; unfold dateN; rw [x1, x2]
      cases k1 <;> cases k2 <;> rfl
    clear hA hA' hq hx hR hl hn8 e1 e2 x1 x2 z1 z2
    go_enter Tryd.func44, Tryd.ntmps44
    go_upto_region 4 with (go_at_call 57; refine (K.out _ hr).mono ?_; rintro e w1 ⟨hb, _, h1⟩; have h2 := h1 [y, m, d, a, b, s] rfl; clear h1; obtain ⟨g, c1, h3, hg, hrd⟩ := h2; subst h3; have HRD := Lib.hid hrd; have HB := Lib.hid hb; clear hb hrd)
    have c0 := icell (j := 0) HRD.out (by simp) rfl
    have c1 := icell (j := 1) HRD.out (by simp) rfl
    have c2 := icell (j := 2) HRD.out (by simp) rfl
    go_quiet ((go_at_call 61; exact Calls.quiet_of_same (KD.out _)))
    go_upto_region 5 with fail
    have HRD2 : Hid (Reads (w1.drewN nq) w1.heap.size 1 (some ⟨g, 0, none⟩) [y, m, d, a, b, s].length (iCells [y, m, d, a, b, s])) := HRD.out.drewN nq
    have HB2 := Lib.hid (dat_drewN (k := nq) HB.out)
    generalize w1.drewN nq = w2 at HRD2 HB2 ⊢
    have d3 := icell (j := 3) HRD2.out (by simp) rfl
    have d4 := icell (j := 4) HRD2.out (by simp) rfl
    have d5 := icell (j := 5) HRD2.out (by simp) rfl
    go_quiet ((go_at_call 58; exact Calls.quiet_of_same (KC.out _)))
    cases k1 with
    | false =>
      go_wp2_with fail
      go_ret2
      exact ⟨by rw [HR.out]; rfl, dat_drewN HB2.out⟩
    | true =>
      cases k2 with
      | false =>
        go_wp2_with fail
        go_ret2
        exact ⟨by rw [HR.out]; rfl, dat_drewN HB2.out⟩
      | true =>
        go_wp2_with fail
        go_ret2
        exact ⟨by rw [HR.out]; exact opt2_some (by simp), dat_drewN HB2.out⟩
end Go.Proofs.YtjdmhbfddklhnaaDoor
