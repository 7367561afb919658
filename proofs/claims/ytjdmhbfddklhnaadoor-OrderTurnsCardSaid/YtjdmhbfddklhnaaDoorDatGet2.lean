/-
  The contract of the document's answer of layer 10, Get (package greffierref10). Conditions: at most 2^40 bytes.
-/
import Derived.Test.YtjdmhbfddklhnaaDoorDatGet
import Derived.Deep.DeepCutAuto
set_option linter.unusedSimpArgs false
set_option linter.unusedVariables false
namespace Go.Proofs.YtjdmhbfddklhnaaDoor
open Go Go.Proofs Go.RowKit Dat

set_option maxHeartbeats 8000000 in
set_option maxRecDepth 100000 in
theorem get10_rest (ad : Addr) (c : Nat) (l : List UInt8) (w : World) (hr : Reads w w.heap.size 1 (some ad) 19 (Lib.byteCells l)) (hc : 19 ≤ c)
    (h4 : l[4]? = some 45) (h7 : l[7]? = some 45) (h10 : l[10]? = some 95) :
    Calls Tryd.prog 30 #[.slice (some ad) 19 c] w fun e w' => OptEnd (dateR l) w e w' := by
  have hl : Hid (l.length = 19) := by have := hr.1; show _ = _; simpa [Lib.byteCells_length] using this
  obtain ⟨R, hR⟩ : ∃ R, R = dateR l := ⟨_, rfl⟩
  have HR := Lib.hid hR
  rw [← hR]
  clear hR
  have cellAt : ∀ j y, j < 19 → l[j]? = some y → w.cell? (ad.add j) = some (.int .u8 y.toNat) := fun j y hj hy => by
    obtain ⟨ad', y', e, hb, _, ey⟩ := dbyte hr hj
    injection e with e
    subst e
    rw [hy] at ey
    injection ey with ey
    rw [hb, ey]
  have c4 := cellAt 4 _ (by omega) h4
  have c7 := cellAt 7 _ (by omega) h7
  have c10 := cellAt 10 _ (by omega) h10
  have hcut := hr.cut (k := 11) (cap := c) (by omega) hc
  rw [if_neg (by omega)] at hcut
  have e45 : (((45 : UInt8).toNat : Nat) : Int) = 45 := rfl
  have e95 : (((95 : UInt8).toNat : Nat) : Int) = 95 := rfl
  rw [e45] at c4 c7
  rw [e95] at c10
  have hcut2 : Reads w w.heap.size 1 (some (ad.add 11)) 8 (Lib.byteCells (l.drop 11)) := by
    have : (Lib.byteCells l).drop (11 * 1) = Lib.byteCells (l.drop 11) := by simp [Lib.byteCells, List.map_drop]
    rw [this] at hcut
    exact hcut
  have HC := Lib.hid hcut2
  have H4 := Lib.hid h4; have H7 := Lib.hid h7; have H10 := Lib.hid h10
  simp [Addr.add] at c4 c7 c10
  clear h4 h7 h10 cellAt hcut hcut2 e45 e95
  obtain ⟨v0, k0, hk0, hv0, T0⟩ := two10_at (some ad) 19 c l w hr (by omega) 0 (by omega)
  obtain ⟨v2, k2, hk2, hv2, T2⟩ := two10_at (some ad) 19 c l w hr (by omega) 2 (by omega)
  obtain ⟨v5, k5, hk5, hv5, T5⟩ := two10_at (some ad) 19 c l w hr (by omega) 5 (by omega)
  obtain ⟨v8, k8, hk8, hv8, T8⟩ := two10_at (some ad) 19 c l w hr (by omega) 8 (by omega)
  obtain ⟨vc, kc, ec, hkc, hvc⟩ := opt_parts (clockR (l.drop 11))
  have hvc' : vc < 86400 := by
    cases kc with
    | false => rw [hvc rfl]; omega
    | true => exact clock_lt (by rw [hkc]; rfl)
  have hok : Hid (R = dateV (if k0 = true then some v0 else none) (if k2 = true then some v2 else none) (if k5 = true then some v5 else none) (if k8 = true then some v8 else none) (if kc = true then some vc else none)) := by
    show _ = _
    rw [HR.out, dateR, if_pos ⟨hl.out, H4.out, H7.out, H10.out⟩, hk0.out, hk2.out, hk5.out, hk8.out, hkc]
  have EC := Lib.hid ec
  clear hr hk0 hk2 hk5 hk8 hkc hvc ec
  go_enter Tryd.func30, Tryd.ntmps30
  go_wp2_with fail
  refine (T0 _ (Below.refl _ _)).mono ?_
  rintro e w1 ⟨rfl, hb1⟩
  go_wp2_with fail
  refine (T2 _ hb1).mono ?_
  rintro e w2 ⟨rfl, hb2⟩
  go_wp2_with fail
  refine (T5 _ hb2).mono ?_
  rintro e w3 ⟨rfl, hb3⟩
  go_wp2_with fail
  refine (T8 _ hb3).mono ?_
  rintro e w4 ⟨rfl, hb4⟩
  go_wp2_with fail
  refine (clock10_any (some (ad.add 11)) 8 (c - 11) (l.drop 11) w4 ((HC.out.below hb4).more hb4.size) (by omega)).mono ?_
  rintro e w5 ⟨h5, hb5⟩
  rw [EC.out] at h5
  subst h5
  have HB5 := Lib.hid (hb4.trans (hb5.mono hb4.size))
  clear hb1 hb2 hb3 hb4 hb5 T0 T2 T5 T8 c4 c7 c10
  have hno : R = none → OptEnd R w (.returned (.tuple #[.int .i64 0, .bool false])) w5 := fun h => by rw [h]; exact ⟨rfl, HB5.out⟩
  have HNO := Lib.hid hno
  clear hno
  cases k0 with
  | false => go_wp2_with fail; go_ret2; exact HNO.out (by rw [hok.out]; rfl)
  | true =>
  cases k2 with
  | false => go_wp2_with fail; go_ret2; exact HNO.out (by rw [hok.out]; rfl)
  | true =>
  cases k5 with
  | false => go_wp2_with fail; go_ret2; exact HNO.out (by rw [hok.out]; rfl)
  | true =>
  cases k8 with
  | false => go_wp2_with fail; go_ret2; exact HNO.out (by rw [hok.out]; rfl)
  | true =>
  cases kc with
  | false => go_wp2_with fail; go_ret2; exact HNO.out (by rw [hok.out]; rfl)
  | true =>
  have hok2 : Hid (R = if 1 ≤ v5 ∧ v5 ≤ 12 ∧ 1 ≤ v8 ∧ v8 ≤ days (100 * v0 + v2) v5 then some ((aheadN (100 * v0 + v2) + mo (100 * v0 + v2) v5 + (v8 - 1)) * 86400 + vc) else none) := hok
  clear hok
  by_cases m1 : v5 < 1
  · go_wp2_with fail
    go_ret2
    exact HNO.out (by rw [hok2.out, if_neg (by omega)])
  by_cases m2 : 12 < v5
  · go_wp2_with fail
    go_ret2
    exact HNO.out (by rw [hok2.out, if_neg (by omega)])
  obtain ⟨y, hy⟩ : ∃ y, y = 100 * v0 + v2 := ⟨_, rfl⟩
  have HYI : Hid ((100 : Int) * (v0 : Int) + (v2 : Int) = (y : Int)) := by show _ = _; omega
  have hyl : y ≤ 9999 := by omega
  rw [← hy] at hok2
  clear hy
  have hdd : days y v5 ≤ 31 := days_le _ _
  go_upto_region 11 with fail
  rw [HYI.out]
  by_cases d1 : v8 < 1
  · go_wp2_with fail
    go_ret2
    exact HNO.out (by rw [hok2.out, if_neg (by omega)])
  obtain ⟨D, hD⟩ : ∃ D, D = days y v5 := ⟨_, rfl⟩
  have DT : ∀ W, Below w.heap.size w W → Calls Tryd.prog 47 #[.int .i64 (y : Int), .int .i64 (v5 : Int)] W fun e w' => e = .returned (.int .i64 (D : Int)) ∧ Below w.heap.size w w' := fun W hW =>
    (days10_any y v5 W (by omega) (by omega) (by omega)).mono (by rintro e w' ⟨rfl, hb⟩; exact ⟨by rw [hD], hW.trans (hb.mono hW.size)⟩)
  rw [← hD] at hok2 hdd
  have HD := Lib.hid hD
  clear hD
  by_cases d2 : D < v8
  · go_wp2_with (go_at_call 47; refine (DT _ HB5.out).mono ?_; rintro e w6 ⟨rfl, hb6⟩)
    go_ret2
    rw [hok2.out, if_neg (by omega)]
    exact ⟨rfl, hb6⟩
  have hok3 : Hid (R = some ((aheadN y + mo y v5 + (v8 - 1)) * 86400 + vc)) := by
    show _ = _
    rw [hok2.out, if_pos (by omega)]
  obtain ⟨N, hN⟩ : ∃ N, N = aheadN y := ⟨_, rfl⟩
  have hNl : N ≤ 3679632 := by have := ahead_le y; omega
  have AT : ∀ W, Below w.heap.size w W → Calls Tryd.prog 48 #[.int .i64 (y : Int)] W fun e w' => e = .returned (.int .i64 (N : Int)) ∧ Below w.heap.size w w' := fun W hW =>
    (ahead10_any y W (by omega)).mono (by rintro e w' ⟨rfl, hb⟩; exact ⟨by rw [hN], hW.trans (hb.mono hW.size)⟩)
  rw [← hN] at hok3
  clear hN hok2 HNO
  go_wp2_with first
    | (go_at_call 47; refine (DT _ HB5.out).mono ?_; rintro e w6 ⟨rfl, hb6⟩)
    | (go_at_call 48; refine (AT _ hb6).mono ?_; rintro e w7 ⟨rfl, hb7⟩)
  clear DT AT
  go_loopw [15, 16] (fun a b wr => ∃ (k v : Nat), 1 ≤ k ∧ k ≤ v5 ∧ a = .int .i64 v ∧ b = .int .i64 k ∧ Hid (v = N + mo y k + (v8 - 1)) ∧ Below w.heap.size w wr) (fun _ b _ => v5 - (intOf b).toNat)
  case atStart => exact ⟨1, N + (v8 - 1), Nat.le_refl _, by omega, by congr 1; omega, rfl, by show _ = _; rw [mo]; omega, hb7⟩
  case round =>
    obtain ⟨k, v, hk1, hk2, rfl, rfl, hv, hb⟩ := hrel
    have hvl : v ≤ 4000000 := by have := mo_le y k; rw [hv.out]; omega
    by_cases hlt : k < v5
    · have hdl : days y k ≤ 31 := days_le y k
      go_wp2_with (go_at_call 47; refine (days10_any y k _ (by omega) (by omega) (by omega)).mono ?_; rintro e w' ⟨rfl, hb'⟩)
      refine ⟨⟨k + 1, v + days y k, by omega, by omega, by simp, by simp, ?_, hb.trans (hb'.mono hb.size)⟩, by simp [intOf]; omega⟩
      show _ = _
      rw [hv.out, mo_step y hk1]; omega
    · obtain rfl : k = v5 := by omega
      go_wp2_with fail
      go_ret2
      refine ⟨?_, hb⟩
      rw [hok3.out]
      refine opt2_some ?_
      rw [← hv.out]
      omega

theorem byte_no {b m : UInt8} (h : b.toNat ≠ m.toNat) {o : Option UInt8} (e : o = some b) : o ≠ some m := by
  intro e'
  rw [e] at e'
  injection e' with e'
  exact h (by rw [e'])

set_option maxHeartbeats 4000000 in
set_option maxRecDepth 100000 in
theorem refGet10_any (A : Option Addr) (n c : Nat) (l : List UInt8) (w : World) (hr : Reads w w.heap.size 1 A n (Lib.byteCells l)) (hn : n ≤ 1099511627776) (hc : n ≤ c) :
    Calls Tryd.prog 30 #[.slice A n c] w fun e w' => OptEnd (dateR l) w e w' := by
  have hl : l.length = n := by have := hr.1; simpa [Lib.byteCells_length] using this
  have hbad : ¬ (l.length = 19 ∧ l[4]? = some 45 ∧ l[7]? = some 45 ∧ l[10]? = some 95) → OptEnd (dateR l) w (.returned (.tuple #[.int .i64 0, .bool false])) w := fun h => by
    rw [dateR, if_neg h]
    exact ⟨rfl, Below.refl _ _⟩
  have HBAD := Lib.hid hbad
  clear hbad
  by_cases h19 : n = 19
  · subst h19
    obtain ⟨ad, b4, rfl, hb4, _, e4⟩ := dbyte hr (show 4 < 19 by omega)
    obtain ⟨ad', b7, e, hb7, _, e7⟩ := dbyte hr (show 7 < 19 by omega)
    injection e with e
    subst e
    obtain ⟨ad', b10, e, hb10, _, e10⟩ := dbyte hr (show 10 < 19 by omega)
    injection e with e
    subst e
    have b4l := b4.toNat_lt; have b7l := b7.toNat_lt; have b10l := b10.toNat_lt
    by_cases h4 : b4.toNat = 45
    · have x4 : b4 = 45 := UInt8.toNat_inj.1 (by rw [h4]; rfl)
      by_cases h7 : b7.toNat = 45
      · have x7 : b7 = 45 := UInt8.toNat_inj.1 (by rw [h7]; rfl)
        by_cases h10 : b10.toNat = 95
        · have x10 : b10 = 95 := UInt8.toNat_inj.1 (by rw [h10]; rfl)
          exact get10_rest ad c l w hr hc (by rw [e4, x4]) (by rw [e7, x7]) (by rw [e10, x10])
        · have hf := HBAD.out (fun h => byte_no (m := 95) h10 e10 h.2.2.2)
          have B4 : ((b4.toNat : Int) != 45) = false := by rw [bne_eq_false_iff_eq]; omega
          have B7 : ((b7.toNat : Int) != 45) = false := by rw [bne_eq_false_iff_eq]; omega
          have B10 : ((b10.toNat : Int) != 95) = true := by rw [bne_iff_ne]; omega
          clear h4 h7 h10 x4 x7 e4 e7 e10 hl HBAD hr
          simp [Addr.add] at hb4 hb7 hb10
          go_enter Tryd.func30, Tryd.ntmps30
          go_wp2
          go_ret2
          exact hf
      · have hf := HBAD.out (fun h => byte_no (m := 45) h7 e7 h.2.2.1)
        have B4 : ((b4.toNat : Int) != 45) = false := by rw [bne_eq_false_iff_eq]; omega
        have B7 : ((b7.toNat : Int) != 45) = true := by rw [bne_iff_ne]; omega
        clear h4 h7 x4 e4 e7 e10 hl HBAD hr
        simp [Addr.add] at hb4 hb7 hb10
        go_enter Tryd.func30, Tryd.ntmps30
        go_wp2
        go_ret2
        exact hf
    · have hf := HBAD.out (fun h => byte_no (m := 45) h4 e4 h.2.1)
      have B4 : ((b4.toNat : Int) != 45) = true := by rw [bne_iff_ne]; omega
      clear h4 e4 e7 e10 hl HBAD hr
      simp [Addr.add] at hb4 hb7 hb10
      go_enter Tryd.func30, Tryd.ntmps30
      go_wp2
      go_ret2
      exact hf
  · have h8B : ((n : Int) != 19) = true := by rw [bne_iff_ne]; omega
    have hf := HBAD.out (fun h => h19 (by rw [← hl]; exact h.1))
    clear h19
    go_enter Tryd.func30, Tryd.ntmps30
    go_wp2
    go_ret2
    exact hf
end Go.Proofs.YtjdmhbfddklhnaaDoor
