/-
  The walk of the law OctetLens, in a world in which the library's table of powers of ten holds what its text lays. Conditions: that table.
-/
import Derived.Test.YtibebghnhicmfaaDoorBackWalk
import Derived.Test.YtibebghnhicmfaaDoorRefLen
import Derived.Test.YtibebghnhicmfaaDoorDec
set_option linter.unusedVariables false
namespace Go.Proofs.YtibebghnhicmfaaDoor
open Go Go.Proofs Go.RowKit Oct

theorem dec_all (n : Int) (w : World) (h0 : -9223372036854775808 ≤ n) (h1 : n ≤ 9223372036854775807) : Calls Tryd.prog 19 #[.int .i64 n] w fun e w' => e = .returned (.string ⟨(Lib.decDigits n.toNat).toArray⟩) ∧ Below w.heap.size w w' := by
  by_cases h : n < 10
  · exact dec_small n w h h0
  · obtain ⟨u, rfl⟩ := Int.eq_ofNat_of_zero_le (show 0 ≤ n by omega)
    exact dec_any u w (by omega)

set_option maxHeartbeats 1000000 in
set_option maxRecDepth 100000 in
theorem lens_walk (n : Int) (A : Option Addr) (k c : Nat) (l : List UInt8) (a m : Int) (w : World) (hr : Reads w w.heap.size 1 A k (Lib.byteCells l)) (htab : Tab w)
    (hn : -9223372036854775808 ≤ n ∧ n ≤ 9223372036854775807) (ha : -9223372036854775808 ≤ a ∧ a ≤ 9223372036854775807) (hm : -9223372036854775808 ≤ m ∧ m ≤ 9223372036854775807) :
    Calls Tryd.prog 5 #[.int .i64 n, .slice A k c, .int .i64 a, .int .i64 m] w fun e w' => e = .returned (.bool true) ∧ Below w.heap.size w w' := by
  have HT := Lib.hid htab
  clear htab
  by_cases hk : 1000 < k
  · go_enter Tryd.func5, Tryd.ntmps5
    go_wp2_with fail
    refine (awake_any w).mono ?_
    rintro e w1 ⟨rfl, hb1⟩
    go_wp2
    go_ret
    exact ⟨rfl, hb1⟩
  · have hk' : k ≤ 1000 := by omega
    clear hk
    by_cases hbig : 1000000000000000 < m
    · have hm2 : Hid (min m 1000000000000000 = 1000000000000000) := by show _ = _; omega
      go_enter Tryd.func5, Tryd.ntmps5
      go_wp2_with fail
      refine (getLen_any A k c l _ a m w hr (by unfold maxLen; omega) ha hm).mono ?_
      rintro e w1 hend
      obtain ⟨rfl, hw⟩ := hend
      subst hw
      generalize getLen l a m = r
      go_wp2_with fail
      rw [hm2.out]
      refine (refLen_any A k c l _ a 1000000000000000 w1 hr (by unfold maxLen; omega) ha (by omega)).mono ?_
      rintro e w2 hend
      obtain ⟨rfl, hw⟩ := hend
      subst hw
      generalize getLen l a 1000000000000000 = r'
      go_wp2_with fail
      refine (putLen_any n w2 hn.1 hn.2 HT.out).mono ?_
      rintro e w3 ⟨rfl, hb3⟩
      go_wp2_with fail
      refine (dec_all n w3 hn.1 hn.2).mono ?_
      rintro e w4 ⟨rfl, hb4⟩
      go_wp2_with fail
      refine (awake_any w4).mono ?_
      rintro e w5 ⟨rfl, hb5⟩
      go_wp2
      go_ret
      have hb34 := hb3.trans (hb4.mono hb3.size)
      exact ⟨rfl, hb34.trans (hb5.mono hb34.size)⟩
    · have hm2 : Hid (min m 1000000000000000 = m) := by show _ = _; omega
      have hm3 : m ≤ 1000000000000000 := by omega
      clear hbig
      go_enter Tryd.func5, Tryd.ntmps5
      go_wp2_with fail
      refine (getLen_any A k c l _ a m w hr (by unfold maxLen; omega) ha hm).mono ?_
      rintro e w1 hend
      obtain ⟨rfl, hw⟩ := hend
      subst hw
      go_wp2_with fail
      rw [hm2.out]
      refine (refLen_any A k c l _ a m w1 hr (by unfold maxLen; omega) ha ⟨hm.1, hm3⟩).mono ?_
      rintro e w2 hend
      obtain ⟨rfl, hw⟩ := hend
      subst hw
      generalize getLen l a m = r
      go_wp2_with fail
      refine (putLen_any n w2 hn.1 hn.2 HT.out).mono ?_
      rintro e w3 ⟨rfl, hb3⟩
      go_wp2_with fail
      refine (dec_all n w3 hn.1 hn.2).mono ?_
      rintro e w4 ⟨rfl, hb4⟩
      go_wp2_with fail
      refine (awake_any w4).mono ?_
      rintro e w5 ⟨rfl, hb5⟩
      go_wp2
      go_ret
      have hb34 := hb3.trans (hb4.mono hb3.size)
      exact ⟨rfl, hb34.trans (hb5.mono hb34.size)⟩
end Go.Proofs.YtibebghnhicmfaaDoor
