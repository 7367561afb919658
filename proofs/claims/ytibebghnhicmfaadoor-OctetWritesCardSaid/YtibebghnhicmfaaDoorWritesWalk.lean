/-
  The walk of the law OctetWrites: it returns true and changes nothing that was there, at any bytes that read as a list. Conditions: none beyond that.
-/
import Derived.Test.YtibebghnhicmfaaDoorRefB64
import Derived.Test.YtibebghnhicmfaaDoorUnb64
set_option linter.unusedVariables false
namespace Go.Proofs.YtibebghnhicmfaaDoor
open Go Go.Proofs Go.RowKit Oct

set_option maxHeartbeats 2000000 in
set_option maxRecDepth 100000 in
theorem writes_walk (A : Option Addr) (n c : Nat) (l : List UInt8) (w : World) (hr : Reads w w.heap.size 1 A n (Lib.byteCells l)) (hc : n ≤ c) :
    Calls Tryd.prog 3 #[.slice A n c] w fun e w' => e = .returned (.bool true) ∧ Below w.heap.size w w' := by
  by_cases hn : 1000 < n
  · go_enter Tryd.func3, Tryd.ntmps3
    go_wp2_with fail
    refine (awake_any w).mono ?_
    rintro e w1 ⟨rfl, hb1⟩
    go_wp2
    go_ret
    exact ⟨rfl, hb1⟩
  · have hn' : n ≤ 1000 := by omega
    have hl : l.length = n := by have := hr.1; simpa [Lib.byteCells_length] using this
    have hx1 := hexOf_length l
    have hx2 := b64_length l
    have hs1 : (⟨(hexOf l).toArray⟩ : ByteArray).size ≤ 1099511627776 := by show (hexOf l).toArray.size ≤ _; simp; omega
    have hs2 : (⟨(b64 l).toArray⟩ : ByteArray).size ≤ 1099511627776 := by show (b64 l).toArray.size ≤ _; simp; omega
    have hu1 : unhex (⟨(hexOf l).toArray⟩ : ByteArray).data.toList = some l := by simpa using unhex_hex l
    have hu2 : ub64 (⟨(b64 l).toArray⟩ : ByteArray).data.toList = some l := by simpa using ub64_b64 l
    have HS1 := Lib.hid hs1; have HS2 := Lib.hid hs2; have HU1 := Lib.hid hu1; have HU2 := Lib.hid hu2
    clear hn hl hx1 hx2 hs1 hs2 hu1 hu2
    go_enter Tryd.func3, Tryd.ntmps3
    go_wp2_with fail
    refine (hex_any A n c l w hr (by omega)).mono ?_
    rintro e w1 ⟨rfl, hb1⟩
    have hz1 := hb1.size
    go_wp2_with fail
    refine (base64_any A n c l w1 ((hr.below hb1).more hz1) (by omega) hc).mono ?_
    rintro e w2 ⟨rfl, hb2⟩
    have hb12 := hb1.trans (hb2.mono hz1)
    clear hb1 hb2 hz1
    have hz2 := hb12.size
    go_wp2_with fail
    refine (unhex_any _ w2 HS1.out).mono ?_
    rintro e w3 hend
    rcases hend with ⟨hno, -, -⟩ | ⟨out, v, hsome, rfl, hown, hb3⟩
    · exact absurd (hno.symm.trans HU1.out) (by simp)
    · obtain rfl : out = l := by
        have := hsome.symm.trans HU1.out
        simpa using this
      clear hsome
      obtain ⟨A5, c5, rfl⟩ : ∃ A5 c5, v = .slice A5 out.length c5 := by
        obtain ⟨A5, c5, h, _⟩ := own_form_cap hown
        exact ⟨A5, c5, h⟩
      have hr5 := Reads.of_own hown
      have hb13 := hb12.trans (hb3.mono hz2)
      have hz3 := hb13.size
      clear hown hb12 hb3 hz2
      go_wp2_with fail
      refine (unbase64_any _ w3 HS2.out).mono ?_
      rintro e w4 hend
      rcases hend with ⟨hno, -, -⟩ | ⟨out2, v2, hsome, rfl, hown2, hb4⟩
      · exact absurd (hno.symm.trans HU2.out) (by simp)
      · have ho2 : out2 = out := by
          have := hsome.symm.trans HU2.out
          simpa using this
        subst ho2
        clear hsome
        obtain ⟨A6, c6, rfl⟩ : ∃ A6 c6, v2 = .slice A6 out2.length c6 := by
          obtain ⟨A6, c6, h, _⟩ := own_form_cap hown2
          exact ⟨A6, c6, h⟩
        have hr6 := Reads.of_own hown2
        have hr5' := (hr5.below hb4).more hb4.size
        have hb14 := hb13.trans (hb4.mono hz3)
        have hz4 := hb14.size
        clear hown2 hb13 hb4 hz3 hr5
        go_wp2_with fail
        refine (refHex_any A n c _ w4 ((hr.below hb14).more hz4) (by omega)).mono ?_
        rintro e w5 ⟨rfl, hb5⟩
        have hr6' := (hr6.below hb5).more hb5.size
        have hr5 := (hr5'.below hb5).more hb5.size
        have hb15 := hb14.trans (hb5.mono hz4)
        have hz5 := hb15.size
        clear hb14 hb5 hz4 hr6 hr5'
        go_wp2_with fail
        refine (refBase64_any A n c _ w5 ((hr.below hb15).more hz5) (by omega)).mono ?_
        rintro e w6 ⟨rfl, hb6⟩
        have hr6 := (hr6'.below hb6).more hb6.size
        have hr5' := (hr5.below hb6).more hb6.size
        have hb16 := hb15.trans (hb6.mono hz5)
        have hr0 := hr.below hb16
        clear hb15 hb6 hz5 hr5 hr6'
        go_wp2_with fail
        rw [run_back hr5']
        simp only [Result.andThen]
        rw [Oper.upon_value]
        go_wp2_with fail
        rw [run_back hr0]
        simp only [Result.andThen]
        rw [Oper.upon_value]
        go_wp2_with fail
        rw [run_back hr6]
        simp only [Result.andThen]
        rw [Oper.upon_value]
        go_wp2_with fail
        rw [run_back hr0]
        simp only [Result.andThen]
        rw [Oper.upon_value]
        go_wp2_with fail
        refine (awake_any w6).mono ?_
        rintro e w7 ⟨rfl, hb7⟩
        go_wp2
        go_ret
        exact ⟨rfl, hb16.trans (hb7.mono hb16.size)⟩
end Go.Proofs.YtibebghnhicmfaaDoor
