/-
  The program's package date: digits, clockText, dayText and Put. Conditions: the library's table of powers of ten holds what its text lays.
-/
import Derived.Test.YtnbmgcjlgjcejaaDoorDatP2
import Derived.Test.YtnbmgcjlgjcejaaDoorDatRep
import Derived.Test.YtnbmgcjlgjcejaaDoorShelfFmt
import Derived.Test.YtnbmgcjlgjcejaaDoorDatOk
set_option linter.unusedVariables false
set_option maxRecDepth 100000
namespace Go.Proofs.YtnbmgcjlgjcejaaDoor
open Go Go.Proofs Go.RowKit Dat

def bS (l : List UInt8) : ByteArray := ⟨l.toArray⟩
theorem bS_add (a b : List UInt8) : bS a ++ bS b = bS (a ++ b) := by
  apply ByteArray.ext
  rw [ByteArray.data_append]
  simp [bS]
theorem bS_size (l : List UInt8) : (bS l).size = l.length := by simp [bS, ByteArray.size]
theorem dec_pos (n : Nat) : 1 ≤ (Lib.decDigits n).length := by
  rw [Lib.decDigits]
  split <;> simp

set_option maxHeartbeats 1000000 in
theorem pDig_any (n q : Nat) (hn : n ≤ 9999) (hq : q ≤ 4) (hl : (Lib.decDigits n).length ≤ q) (w : World) (ht : Tab w) :
    Calls Tryd.prog 22 #[.int .i64 n, .int .i64 q] w fun e w' => e = .returned (.string (bS (List.replicate (q - (Lib.decDigits n).length) 48 ++ Lib.decDigits n))) ∧ Below w.heap.size w w' := by
  have hp := dec_pos n
  obtain ⟨S, hS⟩ : ∃ S, S = bS (Lib.decDigits n) := ⟨_, rfl⟩
  obtain ⟨c, hc⟩ : ∃ c, c = q - (Lib.decDigits n).length := ⟨_, rfl⟩
  obtain ⟨R, hR⟩ : ∃ R, R = bS (List.replicate c 48) := ⟨_, rfl⟩
  have hSs : S.size = (Lib.decDigits n).length := by rw [hS, bS_size]
  have HF : Hid (Calls Tryd.prog 23 #[.int .i64 n, .int .i64 10] w fun e w' => e = .returned (.string S) ∧ Below w.heap.size w w') := by
    refine (Tryd.strconv_FormatInt n (by omega) (by omega) w ht).mono ?_
    rintro e w' ⟨rfl, k, os, rfl⟩
    exact ⟨by rw [Lib.itoa_nonneg, hS]; rfl, below_grow w k os⟩
  have HRp : Hid (∀ w, Calls Tryd.prog 24 #[.string ⟨#[48]⟩, .int .i64 c] w fun e w' => e = .returned (.string R) ∧ w' = w) := fun w => by rw [hR]; exact rep_any c (by omega) w
  have HE : Hid (bS (List.replicate (q - (Lib.decDigits n).length) 48 ++ Lib.decDigits n) = R ++ S) := by show _ = _; rw [hR, hS, bS_add, hc]
  have hcI : (q : Int) - (S.size : Int) = (c : Int) := by omega
  have hs4 : S.size ≤ 4 := by omega
  have hR4 : R.size ≤ 4 := by rw [hR, bS_size, List.length_replicate]; omega
  have hno : ¬ 9223372036854775807 < R.size + S.size := by omega
  clear hS hR hc hSs hp hl ht
  go_enter Tryd.func22, Tryd.ntmps22
  go_wp2_with first | (go_at_call 23; refine (HF.out).mono ?_; rintro e w1 ⟨rfl, hb1⟩) | (go_at_call 24; refine (HRp.out _).mono ?_; rintro e w2 ⟨rfl, rfl⟩)
  go_ret
  exact ⟨by rw [HE.out]; rfl, by assumption⟩

theorem pDig_two {n : Nat} (hn : n < 100) (w : World) (ht : Tab w) : Calls Tryd.prog 22 #[.int .i64 n, .int .i64 2] w fun e w' => e = .returned (.string (bS (pad2 n))) ∧ Below w.heap.size w w' := by
  obtain ⟨h1, h2⟩ := pad_two hn
  rw [← h1]
  exact pDig_any n 2 (by omega) (by omega) h2 w ht
theorem pDig_four {n : Nat} (hn : n < 10000) (w : World) (ht : Tab w) : Calls Tryd.prog 22 #[.int .i64 n, .int .i64 4] w fun e w' => e = .returned (.string (bS (pad4 n))) ∧ Below w.heap.size w w' := by
  obtain ⟨h1, h2⟩ := pad_four hn
  rw [← h1]
  exact pDig_any n 4 (by omega) (by omega) h2 w ht

set_option maxHeartbeats 1000000 in
theorem pClockT_any (x : Nat) (hx : x < 86400) (w : World) (ht : Tab w) :
    Calls Tryd.prog 13 #[.int .i64 x] w fun e w' => e = .returned (.string (bS (pad2 (x / 3600) ++ 58 :: (pad2 (x / 60 % 60) ++ 58 :: pad2 (x % 60))))) ∧ Below w.heap.size w w' := by
  obtain ⟨h, hh⟩ : ∃ h, h = x / 3600 := ⟨_, rfl⟩
  obtain ⟨q, hq⟩ : ∃ q, q = x / 60 := ⟨_, rfl⟩
  obtain ⟨i, hi⟩ : ∃ i, i = x / 60 % 60 := ⟨_, rfl⟩
  obtain ⟨s, hs⟩ : ∃ s, s = x % 60 := ⟨_, rfl⟩
  rw [← hh, ← hi, ← hs]
  have e1 : (x : Int) / 3600 = (h : Int) := by omega
  have e2 : (x : Int) / 60 = (q : Int) := by omega
  have e3 : (q : Int) % 60 = (i : Int) := by omega
  have e4 : (x : Int) % 60 = (s : Int) := by omega
  have K1 : Hid (∀ w, Tab w → Calls Tryd.prog 22 #[.int .i64 h, .int .i64 2] w fun e w' => e = .returned (.string (bS (pad2 h))) ∧ Below w.heap.size w w') := fun w ht => pDig_two (by omega) w ht
  have K2 : Hid (∀ w, Tab w → Calls Tryd.prog 22 #[.int .i64 i, .int .i64 2] w fun e w' => e = .returned (.string (bS (pad2 i))) ∧ Below w.heap.size w w') := fun w ht => pDig_two (by omega) w ht
  have K3 : Hid (∀ w, Tab w → Calls Tryd.prog 22 #[.int .i64 s, .int .i64 2] w fun e w' => e = .returned (.string (bS (pad2 s))) ∧ Below w.heap.size w w') := fun w ht => pDig_two (by omega) w ht
  obtain ⟨S1, h1⟩ : ∃ S, S = bS (pad2 h) := ⟨_, rfl⟩
  obtain ⟨S2, h2⟩ : ∃ S, S = bS (pad2 i) := ⟨_, rfl⟩
  obtain ⟨S3, h3⟩ : ∃ S, S = bS (pad2 s) := ⟨_, rfl⟩
  have HE : Hid (S1 ++ bS [58] ++ S2 ++ bS [58] ++ S3 = bS (pad2 h ++ 58 :: (pad2 i ++ 58 :: pad2 s))) := by
    show _ = _
    rw [h1, h2, h3, bS_add, bS_add, bS_add, bS_add]; simp
  have z1 : S1.size = 2 := by rw [h1, bS_size]; rfl
  have z2 : S2.size = 2 := by rw [h2, bS_size]; rfl
  have z3 : S3.size = 2 := by rw [h3, bS_size]; rfl
  rw [← h1] at K1
  rw [← h2] at K2
  rw [← h3] at K3
  have HT := Lib.hid ht
  clear h1 h2 h3 hh hq hi hs ht
  go_enter Tryd.func13, Tryd.ntmps13
  go_wp2_with first | (go_at_call 22; (with_reducible refine (K1.out _ HT.out).mono ?_); rintro e w1 ⟨rfl, hb1⟩; have HT1 := Lib.hid (HT.out.old hb1); have HB1 := Lib.hid hb1; clear hb1) | (go_at_call 22; (with_reducible refine (K2.out _ HT1.out).mono ?_); rintro e w2 ⟨rfl, hb2⟩; have HT2 := Lib.hid (HT1.out.old hb2); have HB2 := Lib.hid (HB1.out.trans (hb2.mono HB1.out.size)); clear hb2) | (go_at_call 22; (with_reducible refine (K3.out _ HT2.out).mono ?_); rintro e w3 ⟨rfl, hb3⟩; have HB3 := Lib.hid (HB2.out.trans (hb3.mono HB2.out.size)); clear hb3)
  go_ret
  exact ⟨by rw [← HE.out]; rfl, HB3.out⟩
end Go.Proofs.YtnbmgcjlgjcejaaDoor
