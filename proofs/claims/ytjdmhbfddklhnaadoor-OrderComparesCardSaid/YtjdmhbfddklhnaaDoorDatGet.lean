/-
  The contracts of the document's answers of layer 10, ahead, Clock, Get (package greffierref10). Conditions: at most 2^40 bytes.
-/
import Derived.Test.YtjdmhbfddklhnaaDoorDatRef
set_option linter.unusedSimpArgs false
set_option linter.unusedVariables false
namespace Go.Proofs.YtjdmhbfddklhnaaDoor
open Go Go.Proofs Go.RowKit Dat

namespace Dat
theorem yearLen_le (y : Nat) : yearLen y ≤ 368 := by have := days_le y 2; unfold yearLen; omega
theorem ahead_le : ∀ y, aheadN y ≤ 368 * y
  | 0 => Nat.le_refl _
  | y + 1 => by have := ahead_le y; have := yearLen_le y; rw [aheadN]; omega
theorem mo_le (y : Nat) : ∀ m, mo y m ≤ 31 * m
  | 0 => Nat.le_refl _
  | 1 => by simp [mo]
  | m + 2 => by have := mo_le y (m + 1); have := days_le y (m + 1); rw [mo]; omega
end Dat

set_option maxHeartbeats 4000000 in
set_option maxRecDepth 100000 in
theorem ahead10_any (y : Nat) (w : World) (hy : y ≤ 9999) :
    Calls Tryd.prog 48 #[.int .i64 y] w fun e w' => e = .returned (.int .i64 (aheadN y : Nat)) ∧ Below w.heap.size w w' := by
  obtain ⟨q, hq⟩ : ∃ q, q = y / 400 := ⟨_, rfl⟩
  obtain ⟨r, hr⟩ : ∃ r, r = y % 400 := ⟨_, rfl⟩
  obtain ⟨s, hs⟩ : ∃ s, s = y - r := ⟨_, rfl⟩
  have h1 : (y : Int) / 400 = (q : Int) := by omega
  have h2 : (y : Int).tdiv 400 = (q : Int) := by rw [Int.tdiv_eq_ediv_of_nonneg (by omega)]; exact h1
  have h3 : (y : Int) % 400 = (r : Int) := by omega
  have h4 : (y : Int).tmod 400 = (r : Int) := by rw [Int.tmod_eq_emod_of_nonneg (by omega)]; exact h3
  have h5 : (y : Int) - (r : Int) = (s : Int) := by omega
  have hq25 : q ≤ 25 := by omega
  have HA : Hid (aheadN s = q * 146097) := by
    show _ = _
    rw [show s = 400 * q + 0 by omega, ahead_period]
    show 146097 * q + 0 = _
    omega
  have hsy : s ≤ y := by omega
  clear hq hr hs
  go_enter Tryd.func48, Tryd.ntmps48
  go_wp2_with fail
  go_loopw [3, 4] (fun a b wr => ∃ (k v : Nat), s ≤ k ∧ k ≤ y ∧ a = .int .i64 v ∧ b = .int .i64 k ∧ Hid (v = aheadN k) ∧ Below w.heap.size w wr) (fun _ b _ => y - (intOf b).toNat)
  case atStart => exact ⟨s, q * 146097, Nat.le_refl _, hsy, by simp, rfl, by show _ = _; rw [HA.out], Below.refl _ _⟩
  case round =>
    obtain ⟨k, v, hk1, hk2, rfl, rfl, hv, hb⟩ := hrel
    have hvl : v ≤ 4000000 := by have := ahead_le k; rw [hv.out]; omega
    by_cases hlt : k < y
    · have hdl : days k 2 ≤ 31 := days_le k 2
      go_wp2_with (go_at_call 47; refine (days10_any k 2 _ (by omega) (by omega) (by omega)).mono ?_; rintro e w' ⟨rfl, hb'⟩)
      refine ⟨⟨k + 1, v + 337 + days k 2, by omega, by omega, by simp, by simp, ?_, hb.trans (hb'.mono hb.size)⟩, by simp [intOf]; omega⟩
      show _ = _
      rw [hv.out, aheadN, yearLen]; omega
    · obtain rfl : k = y := by omega
      go_wp2_with fail
      go_ret
      exact ⟨by rw [hv.out]; rfl, hb⟩

theorem opt_parts (r : Option Nat) : ∃ (v : Nat) (k : Bool), opt2 r = .tuple #[.int .i64 (v : Int), .bool k] ∧ r = (if k = true then some v else none) ∧ (k = false → v = 0) := by
  cases r with
  | none => exact ⟨0, false, rfl, rfl, fun _ => rfl⟩
  | some v => exact ⟨v, true, rfl, rfl, fun h => by cases h⟩

theorem two_le {l : List UInt8} {i v : Nat} (h : two l i = some v) : v ≤ 99 := by
  obtain ⟨a, b, _, _, ha, hb, rfl⟩ := two_some h
  exact pr_le ha hb

/-- A call of two behind other ones. -/
theorem two10_at (A : Option Addr) (n c : Nat) (l : List UInt8) (w : World) (hr : Reads w w.heap.size 1 A n (Lib.byteCells l)) (hn : n ≤ 1099511627776) (i : Nat) (hi : i ≤ 1000) :
    ∃ (v : Nat) (k : Bool), Hid (two l i = if k = true then some v else none) ∧ v ≤ 99 ∧ ∀ W, Below w.heap.size w W → Calls Tryd.prog 46 #[.slice A n c, .int .i64 (i : Int)] W fun e w' => e = .returned (.tuple #[.int .i64 (v : Int), .bool k]) ∧ Below w.heap.size w w' := by
  obtain ⟨v, k, e, hrk, h0⟩ := opt_parts (two l i)
  refine ⟨v, k, Lib.hid hrk, ?_, fun W hW => ?_⟩
  · cases k with
    | false => rw [h0 rfl]; omega
    | true => exact two_le (by rw [hrk]; rfl)
  · refine (two10_any A n c l w.heap.size i W (hr.below hW) hn hi).mono ?_
    rintro e' w' ⟨h1, h2⟩
    rw [e] at h1
    exact ⟨h1, hW.trans (h2.mono hW.size)⟩

set_option maxHeartbeats 4000000 in
set_option maxRecDepth 100000 in
theorem clock10_any (A : Option Addr) (n c : Nat) (l : List UInt8) (w : World) (hr : Reads w w.heap.size 1 A n (Lib.byteCells l)) (hn : n ≤ 1099511627776) :
    Calls Tryd.prog 28 #[.slice A n c] w fun e w' => OptEnd (clockR l) w e w' := by
  have hl : l.length = n := by have := hr.1; simpa [Lib.byteCells_length] using this
  obtain ⟨R, hR⟩ : ∃ R, R = clockR l := ⟨_, rfl⟩
  have HR := Lib.hid hR
  rw [← hR]
  clear hR
  have hbad : ¬ (l.length = 8 ∧ l[2]? = some 58 ∧ l[5]? = some 58) → OptEnd R w (.returned (.tuple #[.int .i64 0, .bool false])) w := fun h => by
    rw [HR.out, clockR, if_neg h]
    exact ⟨rfl, Below.refl _ _⟩
  have HBAD := Lib.hid hbad
  clear hbad
  by_cases h8 : n = 8
  · subst h8
    obtain ⟨ad, b2, rfl, hb2, _, e2⟩ := dbyte hr (show 2 < 8 by omega)
    obtain ⟨ad', b5, e, hb5, _, e5⟩ := dbyte hr (show 5 < 8 by omega)
    injection e with e
    subst e
    have E2 := Lib.hid e2; have E5 := Lib.hid e5; have HL := Lib.hid hl
    have b2l := b2.toNat_lt; have b5l := b5.toNat_lt
    clear e2 e5 hl
    simp [Addr.add] at hb2 hb5
    by_cases h2 : b2.toNat = 58
    · have h2B : ((b2.toNat : Int) != 58) = false := by rw [bne_eq_false_iff_eq]; omega
      have e58 : b2 = 58 := UInt8.toNat_inj.1 (by rw [h2]; rfl)
      have E58 := Lib.hid e58
      clear h2 e58
      by_cases h5 : b5.toNat = 58
      · have h5B : ((b5.toNat : Int) != 58) = false := by rw [bne_eq_false_iff_eq]; omega
        have e58' : b5 = 58 := UInt8.toNat_inj.1 (by rw [h5]; rfl)
        have E58' := Lib.hid e58'
        clear h5 e58'
        obtain ⟨v0, k0, hk0, hv0, T0⟩ := two10_at (some ad) 8 c l w hr hn 0 (by omega)
        obtain ⟨v3, k3, hk3, hv3, T3⟩ := two10_at (some ad) 8 c l w hr hn 3 (by omega)
        obtain ⟨v6, k6, hk6, hv6, T6⟩ := two10_at (some ad) 8 c l w hr hn 6 (by omega)
        have hok : Hid (R = clockV (if k0 = true then some v0 else none) (if k3 = true then some v3 else none) (if k6 = true then some v6 else none)) := by
          show _ = _
          rw [HR.out, clockR, if_pos ⟨HL.out, by rw [E2.out, E58.out], by rw [E5.out, E58'.out]⟩, hk0.out, hk3.out, hk6.out]
        clear hr hk0 hk3 hk6
        go_enter Tryd.func28, Tryd.ntmps28
        go_wp2_with fail
        refine (T0 _ (Below.refl _ _)).mono ?_
        rintro e w1 ⟨rfl, hb1⟩
        go_wp2_with fail
        refine (T3 _ hb1).mono ?_
        rintro e w3 ⟨rfl, hb3⟩
        go_wp2_with fail
        refine (T6 _ hb3).mono ?_
        rintro e w6 ⟨rfl, hb6⟩
        have HB6 := Lib.hid hb6
        clear hb1 hb3 hb6 T0 T3 T6 hb2 hb5
        have hno : R = none → OptEnd R w (.returned (.tuple #[.int .i64 0, .bool false])) w6 := fun h => by rw [h]; exact ⟨rfl, HB6.out⟩
        have HNO := Lib.hid hno
        clear hno
        cases k0 with
        | false => go_wp2_with fail; go_ret2; exact HNO.out (by rw [hok.out]; rfl)
        | true =>
        cases k3 with
        | false => go_wp2_with fail; go_ret2; exact HNO.out (by rw [hok.out]; rfl)
        | true =>
        cases k6 with
        | false => go_wp2_with fail; go_ret2; exact HNO.out (by rw [hok.out]; rfl)
        | true =>
        have hok2 : Hid (R = if v0 ≤ 23 ∧ v3 ≤ 59 ∧ v6 ≤ 59 then some (3600 * v0 + 60 * v3 + v6) else none) := hok
        clear hok
        by_cases c0 : 23 < v0
        · go_wp2_with fail
          go_ret2
          exact HNO.out (by rw [hok2.out, if_neg (by omega)])
        by_cases c3 : 59 < v3
        · go_wp2_with fail
          go_ret2
          exact HNO.out (by rw [hok2.out, if_neg (by omega)])
        by_cases c6 : 59 < v6
        · go_wp2_with fail
          go_ret2
          exact HNO.out (by rw [hok2.out, if_neg (by omega)])
        go_wp2_with fail
        go_ret2
        refine ⟨?_, HB6.out⟩
        rw [hok2.out, if_pos (by omega)]
        exact opt2_some (by omega)
      · have h5B : ((b5.toNat : Int) != 58) = true := by rw [bne_iff_ne]; omega
        have hf := HBAD.out (fun h => h5 (by have := E5.out.symm.trans h.2.2; injection this with this; rw [this]; rfl))
        clear h5
        go_enter Tryd.func28, Tryd.ntmps28
        go_wp2
        go_ret2
        exact hf
    · have h2B : ((b2.toNat : Int) != 58) = true := by rw [bne_iff_ne]; omega
      have hf := HBAD.out (fun h => h2 (by have := E2.out.symm.trans h.2.1; injection this with this; rw [this]; rfl))
      clear h2
      go_enter Tryd.func28, Tryd.ntmps28
      go_wp2
      go_ret2
      exact hf
  · have h8B : ((n : Int) != 8) = true := by rw [bne_iff_ne]; omega
    have hf := HBAD.out (fun h => h8 (by rw [← hl]; exact h.1))
    clear h8
    go_enter Tryd.func28, Tryd.ntmps28
    go_wp2
    go_ret2
    exact hf
end Go.Proofs.YtjdmhbfddklhnaaDoor
