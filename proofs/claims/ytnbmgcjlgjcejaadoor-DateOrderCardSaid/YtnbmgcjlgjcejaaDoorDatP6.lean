/-
  The program's package date: dayText and Put. Conditions: the library's table of powers of ten holds what its text lays.
-/
import Derived.Test.YtnbmgcjlgjcejaaDoorDatP5
set_option linter.unusedVariables false
set_option maxRecDepth 100000
namespace Go.Proofs.YtnbmgcjlgjcejaaDoor
open Go Go.Proofs Go.RowKit Dat

/-- How dayText ends. -/
def DayTEnd (D : Nat) (w : World) (e : Ending) (w' : World) : Prop :=
  Below w.heap.size w w' ∧ ∃ y m d, y < 10000 ∧ (1 ≤ m ∧ m ≤ 12) ∧ (1 ≤ d ∧ d ≤ days y m) ∧ D = aheadN y + mo y m + (d - 1) ∧ e = .returned (.string (bS (pad4 y ++ 45 :: (pad2 m ++ 45 :: pad2 d))))
namespace Dat
theorem year_small {k D : Nat} (h : aheadN k ≤ D) (hD : D < 3652425) : k < 10000 := by
  rcases Nat.lt_or_ge k 10000 with hk | hk
  · exact hk
  · have := ahead_mono 10000 (k - 10000)
    rw [show 10000 + (k - 10000) = k by omega, ahead_10000] at this
    omega
theorem month_small {y m r : Nat} (h1 : 1 ≤ m) (h2 : m ≤ 13) (hr : mo y m ≤ r) (hy : r < yearLen y) : m ≤ 12 := by
  rcases Nat.lt_or_ge m 13 with h | h
  · omega
  · obtain rfl : m = 13 := by omega
    rw [mo13] at hr; omega
end Dat

set_option maxHeartbeats 4000000 in
theorem pDayT_any (D : Nat) (hD : D < 3652425) (w : World) (ht : Tab w) : Calls Tryd.prog 12 #[.int .i64 D] w fun e w' => DayTEnd D w e w' := by
  have HT := Lib.hid ht
  clear ht
  obtain ⟨k0, hk0⟩ : ∃ k, k = D / 366 := ⟨_, rfl⟩
  have e0 : (D : Int) / 366 = (k0 : Int) := by omega
  have HK0 : Hid (aheadN k0 ≤ D) := by have := ahead_366 k0; show _ ≤ _; omega
  have HSm : Hid (∀ k, aheadN k ≤ D → k < 10000) := fun k h => year_small h hD
  have KA : Hid (∀ k : Nat, k ≤ 10000 → ∀ w, Calls Tryd.prog 11 #[.int .i64 k] w fun e w' => e = .returned (.int .i64 (aheadN k : Int)) ∧ w' = w) := fun k h w => pAhead_any k w h
  have KO : Hid (∀ (y m : Nat), y ≤ 10000 → 1 ≤ m → m ≤ 12 → ∀ w, Calls Tryd.prog 21 #[.int .i64 y, .int .i64 m] w fun e w' => e = .returned (.int .i64 (days y m : Nat)) ∧ w' = w) := fun y m hy h1 h2 w => pDays_any y m w (by omega) h1 h2
  have HL : Hid (∀ y, y ≤ 9999 → yearLen y ≤ 366) := fun y _ => year_len y
  have HMS : Hid (∀ y m, 1 ≤ m → mo y (m + 1) = mo y m + days y m) := fun y m => mo_step y
  have HMM : Hid (∀ y m r, 1 ≤ m → m ≤ 13 → mo y m ≤ r → r < yearLen y → m ≤ 12) := fun y m r => month_small
  clear hk0
  go_enter Tryd.func12, Tryd.ntmps12
  go_wp2_with fail
  go_loop [3] (fun p => ∃ k : Nat, p = .int .i64 k ∧ Hid (aheadN k ≤ D)) (fun p => 10000 - (intOf p).toNat)
  case atStart => exact ⟨k0, rfl, HK0.out⟩
  case round =>
    obtain ⟨k, rfl, hk⟩ := hrel
    have hk4 := HSm.out k hk.out
    have hkI : (k : Int) + 1 = ((k + 1 : Nat) : Int) := by omega
    obtain ⟨k', hk'⟩ : ∃ k', k' = k + 1 := ⟨_, rfl⟩
    rw [← hk'] at hkI
    obtain ⟨a, ha⟩ : ∃ a, a = aheadN k' := ⟨_, rfl⟩
    have KA1 : Hid (∀ w, Calls Tryd.prog 11 #[.int .i64 k'] w fun e w' => e = .returned (.int .i64 (a : Int)) ∧ w' = w) := fun w => by rw [ha]; exact KA.out k' (by omega) w
    have HA := Lib.hid ha
    have HK' := Lib.hid hk'
    by_cases hle : a ≤ D
    · have b1 : decide (a ≤ D) = true := decide_eq_true hle
      clear ha hk'
      go_wp2_with (go_at_call 11; refine (KA1.out _).mono ?_; rintro e w' ⟨rfl, rfl⟩)
      exact ⟨⟨k', rfl, by show _ ≤ _; rw [← HA.out]; exact hle⟩, by have := HK'.out; simp [intOf]; omega⟩
    · have b1 : decide (a ≤ D) = false := decide_eq_false hle
      obtain ⟨A0, hA0⟩ : ∃ a, a = aheadN k := ⟨_, rfl⟩
      have KA0 : Hid (∀ w, Calls Tryd.prog 11 #[.int .i64 k] w fun e w' => e = .returned (.int .i64 (A0 : Int)) ∧ w' = w) := fun w => by rw [hA0]; exact KA.out k (by omega) w
      obtain ⟨r0, hr0⟩ : ∃ r, r = D - A0 := ⟨_, rfl⟩
      have hAD : A0 ≤ D := by rw [hA0]; exact hk.out
      have hrI : (D : Int) - (A0 : Int) = (r0 : Int) := by omega
      have hy0 : r0 < yearLen k := by
        have h1 : aheadN (k + 1) = aheadN k + yearLen k := rfl
        rw [← hk', ← ha, ← hA0] at h1
        omega
      have hr366 : r0 < 366 := by have := HL.out k (by omega); omega
      have HY := Lib.hid hy0
      have HA0 := Lib.hid hA0
      have HR0 : Hid (D = A0 + r0) := by show _ = _; omega
      clear ha hk' hA0 hr0 hy0 hle
      go_wp2_with first | (go_at_call 11; (with_reducible refine (KA1.out _).mono ?_); rintro e w' ⟨rfl, rfl⟩) | (go_at_call 11; (with_reducible refine (KA0.out _).mono ?_); rintro e w' ⟨rfl, rfl⟩)
      go_loop [0, 4] (fun p q => ∃ (r m : Nat), p = .int .i64 r ∧ q = .int .i64 m ∧ 1 ≤ m ∧ m ≤ 12 ∧ r ≤ 366 ∧ Hid (r0 = mo k m + r)) (fun _ q => 13 - (intOf q).toNat)
      case atStart => exact ⟨r0, 1, rfl, rfl, by omega, by omega, by omega, by show _ = _; show r0 = 0 + r0; omega⟩
      case round =>
        obtain ⟨r, m, rfl, rfl, hm1, hm12, hr6, hr⟩ := hrel
        obtain ⟨E, hE⟩ : ∃ E, E = days k m := ⟨_, rfl⟩
        have KE : Hid (∀ w, Calls Tryd.prog 21 #[.int .i64 k, .int .i64 m] w fun e w' => e = .returned (.int .i64 (E : Nat)) ∧ w' = w) := fun w => by rw [hE]; exact KO.out k m (by omega) hm1 hm12 w
        have hE31 : E ≤ 31 := by rw [hE]; exact days_le k m
        have HE := Lib.hid hE
        by_cases hge : E ≤ r
        · have b2 : decide (E ≤ r) = true := decide_eq_true hge
          obtain ⟨r', hr'⟩ : ∃ r', r' = r - E := ⟨_, rfl⟩
          have hrI' : (r : Int) - (E : Int) = (r' : Int) := by omega
          have hmm : mo k (m + 1) = mo k m + E := by rw [HMS.out k m hm1, ← hE]
          have hm13 : m + 1 ≤ 12 := HMM.out k (m + 1) r0 (by omega) (by omega) (by rw [hmm]; have := hr.out; omega) HY.out
          have HN : Hid (r0 = mo k (m + 1) + r') := by show _ = _; rw [hmm, hr.out]; omega
          have hr6' : r' ≤ 366 := by omega
          clear hE hr' hmm
          go_wp2_with (go_at_call 21; refine (KE.out _).mono ?_; rintro e w' ⟨rfl, rfl⟩)
          exact ⟨⟨r', m + 1, rfl, by simp, by omega, by omega, hr6', HN⟩, by simp [intOf]; omega⟩
        · have b2 : decide (E ≤ r) = false := decide_eq_false hge
          obtain ⟨d, hd⟩ : ∃ d, d = r + 1 := ⟨_, rfl⟩
          have hdI : (r : Int) + 1 = (d : Int) := by omega
          have HEND : Hid (k < 10000 ∧ (1 ≤ m ∧ m ≤ 12) ∧ (1 ≤ d ∧ d ≤ days k m) ∧ D = aheadN k + mo k m + (d - 1)) :=
            ⟨by omega, ⟨hm1, hm12⟩, ⟨by omega, by rw [← HE.out]; omega⟩, by have h1 := HR0.out; have h2 := hr.out; rw [HA0.out] at h1; omega⟩
          obtain ⟨S1, h1⟩ : ∃ S, S = bS (pad4 k) := ⟨_, rfl⟩
          obtain ⟨S2, h2⟩ : ∃ S, S = bS (pad2 m) := ⟨_, rfl⟩
          obtain ⟨S3, h3⟩ : ∃ S, S = bS (pad2 d) := ⟨_, rfl⟩
          have K1 : Hid (∀ w, Tab w → Calls Tryd.prog 22 #[.int .i64 k, .int .i64 4] w fun e w' => e = .returned (.string S1) ∧ Below w.heap.size w w') := fun w ht => by rw [h1]; exact pDig_four (by omega) w ht
          have K2 : Hid (∀ w, Tab w → Calls Tryd.prog 22 #[.int .i64 m, .int .i64 2] w fun e w' => e = .returned (.string S2) ∧ Below w.heap.size w w') := fun w ht => by rw [h2]; exact pDig_two (by omega) w ht
          have K3 : Hid (∀ w, Tab w → Calls Tryd.prog 22 #[.int .i64 d, .int .i64 2] w fun e w' => e = .returned (.string S3) ∧ Below w.heap.size w w') := fun w ht => by rw [h3]; exact pDig_two (by omega) w ht
          have HS : Hid (S1 ++ bS [45] ++ S2 ++ bS [45] ++ S3 = bS (pad4 k ++ 45 :: (pad2 m ++ 45 :: pad2 d))) := by
            show _ = _
            rw [h1, h2, h3, bS_add, bS_add, bS_add, bS_add]; simp
          have z1 : S1.size = 4 := by rw [h1, bS_size]; rfl
          have z2 : S2.size = 2 := by rw [h2, bS_size]; rfl
          have z3 : S3.size = 2 := by rw [h3, bS_size]; rfl
          clear hE hd h1 h2 h3 hge
          go_wp2_with first | (go_at_call 21; refine (KE.out _).mono ?_; rintro e w' ⟨rfl, rfl⟩) | (go_at_call 22; (with_reducible refine (K1.out _ HT.out).mono ?_); rintro e w1 ⟨rfl, hb1⟩; have HT1 := Lib.hid (HT.out.old hb1); have HB1 := Lib.hid hb1; clear hb1) | (go_at_call 22; (with_reducible refine (K2.out _ HT1.out).mono ?_); rintro e w2 ⟨rfl, hb2⟩; have HT2 := Lib.hid (HT1.out.old hb2); have HB2 := Lib.hid (HB1.out.trans (hb2.mono HB1.out.size)); clear hb2) | (go_at_call 22; (with_reducible refine (K3.out _ HT2.out).mono ?_); rintro e w3 ⟨rfl, hb3⟩; have HB3 := Lib.hid (HB2.out.trans (hb3.mono HB2.out.size)); clear hb3)
          go_ret
          refine ⟨HB3.out, k, m, d, HEND.out.1, HEND.out.2.1, HEND.out.2.2.1, HEND.out.2.2.2, ?_⟩
          rw [← HS.out]; rfl

set_option maxHeartbeats 4000000 in
theorem pPut_any (n : Int) (w : World) (h1 : -9223372036854775808 ≤ n) (h2 : n ≤ 9223372036854775807) (ht : Tab w) : Calls Tryd.prog 6 #[.int .i64 n] w fun e w' => PutEnd n w e w' := by
  have HT := Lib.hid ht
  clear ht
  have KA : Hid (∀ w, Calls Tryd.prog 11 #[.int .i64 10000] w fun e w' => e = .returned (.int .i64 3652425) ∧ w' = w) := fun w => by
    have h := pAhead_any 10000 w (by omega)
    rw [ahead_10000] at h
    exact h
  by_cases c1 : n < 0
  · have HN : Hid (¬ (0 ≤ n ∧ n < 315569520000)) := by show ¬ _; omega
    go_enter Tryd.func6, Tryd.ntmps6
    go_wp2
    go_ret2
    exact ⟨Below.refl _ _, fun h => absurd h HN.out, fun _ => rfl⟩
  obtain ⟨x, rfl⟩ := Int.eq_ofNat_of_zero_le (show 0 ≤ n by omega)
  have b1 : decide ((x : Int) < 0) = false := decide_eq_false (by omega)
  obtain ⟨D, hD⟩ : ∃ D, D = x / 86400 := ⟨_, rfl⟩
  obtain ⟨s, hs⟩ : ∃ s, s = x % 86400 := ⟨_, rfl⟩
  have eD : (x : Int) / 86400 = (D : Int) := by omega
  have es : (x : Int) % 86400 = (s : Int) := by omega
  by_cases c2 : 3652425 ≤ D
  · have b2 : decide (3652425 ≤ (D : Int)) = true := decide_eq_true (by omega)
    have HN : Hid (¬ (0 ≤ (x : Int) ∧ (x : Int) < 315569520000)) := by show ¬ _; omega
    clear hD hs c1 c2
    go_enter Tryd.func6, Tryd.ntmps6
    go_wp2_with (go_at_call 11; refine (KA.out _).mono ?_; rintro e w' ⟨rfl, rfl⟩)
    go_ret2
    exact ⟨Below.refl _ _, fun h => absurd h HN.out, fun _ => rfl⟩
  · have b2 : decide (3652425 ≤ (D : Int)) = false := decide_eq_false (by omega)
    have HN : Hid (0 ≤ (x : Int) ∧ (x : Int) < 315569520000) := ⟨by omega, by omega⟩
    have HX : Hid (x = D * 86400 + s ∧ s < 86400) := ⟨by omega, by omega⟩
    have KD : Hid (∀ w, Tab w → Calls Tryd.prog 12 #[.int .i64 D] w fun e w' => DayTEnd D w e w') := fun w ht => pDayT_any D (by omega) w ht
    obtain ⟨S2, hS2⟩ : ∃ S, S = bS (pad2 (s / 3600) ++ 58 :: (pad2 (s / 60 % 60) ++ 58 :: pad2 (s % 60))) := ⟨_, rfl⟩
    have KC : Hid (∀ w, Tab w → Calls Tryd.prog 13 #[.int .i64 s] w fun e w' => e = .returned (.string S2) ∧ Below w.heap.size w w') := fun w ht => by rw [hS2]; exact pClockT_any s (by omega) w ht
    have z2 : S2.size = 8 := by rw [hS2, bS_size]; rfl
    have HS2 := Lib.hid hS2
    clear hD hs c1 c2 hS2
    go_enter Tryd.func6, Tryd.ntmps6
    go_wp2_with first | (go_at_call 11; refine (KA.out _).mono ?_; rintro e w' ⟨rfl, rfl⟩) | (go_at_call 12; refine (KD.out _ HT.out).mono ?_; rintro e w1 ⟨hb1, y, m, d, hy, hm, hd, hDD, he⟩; obtain ⟨S1, hS1⟩ : ∃ S, S = bS (pad4 y ++ 45 :: (pad2 m ++ 45 :: pad2 d)) := ⟨_, rfl⟩; rw [← hS1] at he; subst he; have z1 : S1.size = 10 := (by rw [hS1, bS_size]; rfl); have HS1 := Lib.hid hS1; have HT1 := Lib.hid (HT.out.old hb1); have HB1 := Lib.hid hb1; have HY := Lib.hid hy; have HM := Lib.hid hm; have HDm := Lib.hid hd; have HDD := Lib.hid hDD; clear hS1 hb1 hy hm hd hDD) | (go_at_call 13; refine (KC.out _ HT1.out).mono ?_; rintro e w2 ⟨rfl, hb2⟩; have HB2 := Lib.hid (HB1.out.trans (hb2.mono HB1.out.size)); clear hb2)
    go_ret2
    refine ⟨HB2.out, fun _ => ?_, fun h => absurd HN.out h⟩
    have hs3 := HX.out.2
    refine ⟨pad4 y ++ 45 :: (pad2 m ++ 45 :: (pad2 d ++ 95 :: (pad2 (s / 3600) ++ 58 :: (pad2 (s / 60 % 60) ++ 58 :: pad2 (s % 60))))), ?_, ?_⟩
    · rw [put_date HY.out HM.out HDm.out (by omega) (by omega) (by omega)]
      congr 1
      have h1 := HX.out.1
      have h2 := HDD.out
      rw [Int.toNat_natCast, ← h2, h1]
      congr 1
      omega
    · have e : S1 ++ bS [95] ++ S2 = bS (pad4 y ++ 45 :: (pad2 m ++ 45 :: (pad2 d ++ 95 :: (pad2 (s / 3600) ++ 58 :: (pad2 (s / 60 % 60) ++ 58 :: pad2 (s % 60)))))) := by
        rw [HS1.out, HS2.out, bS_add, bS_add]; simp
      show _ = Ending.returned (.tuple #[.string (bS _), .bool true])
      rw [← e]; rfl

theorem putOk : PutOk where
  put n w h1 h2 ht := pPut_any n w h1 h2 ht
end Go.Proofs.YtnbmgcjlgjcejaaDoor
