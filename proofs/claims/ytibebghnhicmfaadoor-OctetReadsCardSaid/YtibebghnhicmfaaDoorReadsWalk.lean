/-
  The walk of the law OctetReads: it returns true and changes nothing that was there, at any text. Conditions: none.
-/
import Derived.Test.YtibebghnhicmfaaDoorRefUnb64b
set_option linter.unusedVariables false
namespace Go.Proofs.YtibebghnhicmfaaDoor
open Go Go.Proofs Go.RowKit Oct

set_option maxHeartbeats 4000000 in
set_option maxRecDepth 100000 in
theorem reads_walk (s : ByteArray) (w : World) :
    Calls Tryd.prog 4 #[.string s] w fun e w' => e = .returned (.bool true) ∧ Below w.heap.size w w' := by
  by_cases hn : 1000 < s.size
  · go_enter Tryd.func4, Tryd.ntmps4
    go_wp2_with fail
    refine (awake_any w).mono ?_
    rintro e w1 ⟨rfl, hb1⟩
    go_wp2
    go_ret
    exact ⟨rfl, hb1⟩
  · have hs : s.size ≤ 1099511627776 := by omega
    have hB : ∀ o2, ub64 s.data.toList = some o2 → b64 o2 = s.data.toList := fun o2 h => b64_ub64 _ o2 h
    have hL1 : ∀ o, unhex s.data.toList = some o → o.length ≤ 1000 := fun o h => by
      by_cases hp : s.data.toList.length % 2 = 0
      · have := unhex_length (s.data.toList.length / 2) _ _ (by omega) h
        simp at this hp; omega
      · rw [unhex_odd (s.data.toList.length / 2) _ (by omega)] at h
        cases h
    have hL2 : ∀ o, ub64 s.data.toList = some o → o.length ≤ 1000 := fun o h => by
      have := congrArg List.length (b64_ub64 _ o h)
      rw [b64_groups] at this
      simp at this; omega
    have HBB : Hid (∀ o2, ub64 s.data.toList = some o2 → b64 o2 = s.data.toList) := hB
    clear hB
    go_enter Tryd.func4, Tryd.ntmps4
    go_wp2_with fail
    refine (unhex_any s w (by omega)).mono ?_
    rintro e w1 hend1
    rcases hend1 with ⟨h1, rfl, hb1⟩ | ⟨o1, v1, h1, rfl, hown1, hb1⟩
    · have hz1 := hb1.size
      have H1 := Lib.hid h1
      clear h1
      go_wp2_with fail
      refine (unbase64_any s w1 (by omega)).mono ?_
      rintro e w2 hend2
      rcases hend2 with ⟨h2, rfl, hb2⟩ | ⟨o2, v2, h2, rfl, hown2, hb2⟩
      · have H2 := Lib.hid h2
        have hb12 := hb1.trans (hb2.mono hz1)
        have hz2 := hb12.size
        clear h2 hb1 hz1 hb2 hL1 hL2
        go_wp2_with fail
        refine (refUnhex_any s w2 (by omega)).mono ?_
        rintro e w3 hend3
        rcases hend3 with ⟨h3, v3, rfl, hown3, hb3⟩ | ⟨o3, v3, h3, rfl, hown3, hb3⟩
        rotate_left
        · exact absurd (H1.out.symm.trans h3) (by simp)
        obtain ⟨A3, c3, rfl, _⟩ := own_form_cap hown3
        have hr3 := Reads.of_own (c := c3) hown3
        have hb13 := hb12.trans (hb3.mono hz2)
        have hz3 := hb13.size
        clear h3 hown3 hb12 hz2 hb3
        go_wp2_with fail
        refine (refUnbase64_any s w3 (by omega)).mono ?_
        rintro e w4 hend4
        rcases hend4 with ⟨h4, v4, rfl, hown4, hb4⟩ | ⟨o4, v4, h4, rfl, hown4, hb4⟩
        rotate_left
        · exact absurd (H2.out.symm.trans h4) (by simp)
        obtain ⟨A4, c4, rfl, _⟩ := own_form_cap hown4
        have hr4 := Reads.of_own (c := c4) hown4
        have hr3d := (hr3.below hb4).more hb4.size
        have hb14 := hb13.trans (hb4.mono hz3)
        have hz4 := hb14.size
        clear h4 hown4 hb13 hz3 hb4 hr3 HBB
        go_wp2_with fail
        rw [run_back (B := 0) (l := []) Reads.none_]
        simp only [Result.andThen]
        rw [Oper.upon_value]
        go_wp2_with fail
        rw [run_back (B := 0) (l := []) Reads.none_]
        simp only [Result.andThen]
        rw [Oper.upon_value]
        go_wp2_with fail
        rw [run_back (B := 0) (l := []) Reads.none_]
        simp only [Result.andThen]
        rw [Oper.upon_value]
        go_wp2_with fail
        rw [run_back (B := 0) (l := []) Reads.none_]
        simp only [Result.andThen]
        rw [Oper.upon_value]
        go_wp2_with fail
        refine (awake_any w4).mono ?_
        rintro e w7 ⟨rfl, hb7⟩
        go_wp2
        go_ret
        exact ⟨rfl, hb14.trans (hb7.mono hz4)⟩
      · obtain ⟨A2, c2, rfl, hc2⟩ := own_form_cap hown2
        have hr2 := Reads.of_own hown2
        have ho2 : o2.length ≤ 1000 := hL2 _ h2
        clear hown2
        
        have H2 := Lib.hid h2
        have hb12 := hb1.trans (hb2.mono hz1)
        have hz2 := hb12.size
        clear h2 hb1 hz1 hb2 hL1 hL2
        go_wp2_with fail
        refine (refUnhex_any s w2 (by omega)).mono ?_
        rintro e w3 hend3
        rcases hend3 with ⟨h3, v3, rfl, hown3, hb3⟩ | ⟨o3, v3, h3, rfl, hown3, hb3⟩
        rotate_left
        · exact absurd (H1.out.symm.trans h3) (by simp)
        obtain ⟨A3, c3, rfl, _⟩ := own_form_cap hown3
        have hr3 := Reads.of_own (c := c3) hown3
        have hr2c := (hr2.below hb3).more hb3.size
        have hb13 := hb12.trans (hb3.mono hz2)
        have hz3 := hb13.size
        clear h3 hown3 hb12 hz2 hb3 hr2
        go_wp2_with fail
        refine (refUnbase64_any s w3 (by omega)).mono ?_
        rintro e w4 hend4
        rcases hend4 with ⟨h4, v4, rfl, hown4, hb4⟩ | ⟨o4, v4, h4, rfl, hown4, hb4⟩
        · exact absurd (H2.out.symm.trans h4) (by simp)
        obtain rfl : o4 = o2 := by
          have := h4.symm.trans H2.out
          simpa using this
        obtain ⟨A4, c4, rfl, _⟩ := own_form_cap hown4
        have hr4 := Reads.of_own (c := c4) hown4
        have hr2d := (hr2c.below hb4).more hb4.size
        have hr3d := (hr3.below hb4).more hb4.size
        have hBB := HBB.out _ h4
        have hb14 := hb13.trans (hb4.mono hz3)
        have hz4 := hb14.size
        clear h4 hown4 hb13 hz3 hb4 hr3 HBB hr2c
        go_wp2_with fail
        rw [run_back (B := 0) (l := []) Reads.none_]
        simp only [Result.andThen]
        rw [Oper.upon_value]
        go_wp2_with fail
        rw [run_back (B := 0) (l := []) Reads.none_]
        simp only [Result.andThen]
        rw [Oper.upon_value]
        go_wp2_with fail
        rw [run_back hr2d]
        simp only [Result.andThen]
        rw [Oper.upon_value]
        go_wp2_with fail
        rw [run_back hr4]
        simp only [Result.andThen]
        rw [Oper.upon_value]
        go_wp2_with fail
        refine (base64_any A2 _ c2 o4 w4 hr2d (by omega) hc2).mono ?_
        rintro e w5 ⟨rfl, hb5⟩
        have hb15 := hb14.trans (hb5.mono hz4)
        rw [hBB]
        go_wp2_with fail
        refine (awake_any w5).mono ?_
        rintro e w7 ⟨rfl, hb7⟩
        go_wp2
        go_ret
        exact ⟨rfl, hb15.trans (hb7.mono hb15.size)⟩
    · obtain ⟨A1, c1, rfl, hc1⟩ := own_form_cap hown1
      have hr1 := Reads.of_own hown1
      have ho1 : o1.length ≤ 1000 := hL1 _ h1
      have hz1 := hb1.size
      have H1 := Lib.hid h1
      clear h1 hown1
      go_wp2_with fail
      refine (unbase64_any s w1 (by omega)).mono ?_
      rintro e w2 hend2
      rcases hend2 with ⟨h2, rfl, hb2⟩ | ⟨o2, v2, h2, rfl, hown2, hb2⟩
      · have H2 := Lib.hid h2
        have hb12 := hb1.trans (hb2.mono hz1)
        have hz2 := hb12.size
        have hr1b := (hr1.below hb2).more hb2.size
        clear h2 hb1 hz1 hb2 hL1 hL2 hr1
        go_wp2_with fail
        refine (refUnhex_any s w2 (by omega)).mono ?_
        rintro e w3 hend3
        rcases hend3 with ⟨h3, v3, rfl, hown3, hb3⟩ | ⟨o3, v3, h3, rfl, hown3, hb3⟩
        · exact absurd (H1.out.symm.trans h3) (by simp)
        obtain rfl : o3 = o1 := by
          have := h3.symm.trans H1.out
          simpa using this
        obtain ⟨A3, c3, rfl, _⟩ := own_form_cap hown3
        have hr3 := Reads.of_own (c := c3) hown3
        have hr1c := (hr1b.below hb3).more hb3.size
        have hb13 := hb12.trans (hb3.mono hz2)
        have hz3 := hb13.size
        clear h3 hown3 hb12 hz2 hb3 hr1b
        go_wp2_with fail
        refine (refUnbase64_any s w3 (by omega)).mono ?_
        rintro e w4 hend4
        rcases hend4 with ⟨h4, v4, rfl, hown4, hb4⟩ | ⟨o4, v4, h4, rfl, hown4, hb4⟩
        rotate_left
        · exact absurd (H2.out.symm.trans h4) (by simp)
        obtain ⟨A4, c4, rfl, _⟩ := own_form_cap hown4
        have hr4 := Reads.of_own (c := c4) hown4
        have hr3d := (hr3.below hb4).more hb4.size
        have hr1d := (hr1c.below hb4).more hb4.size
        have hb14 := hb13.trans (hb4.mono hz3)
        have hz4 := hb14.size
        clear h4 hown4 hb13 hz3 hb4 hr3 HBB hr1c
        go_wp2_with fail
        rw [run_back hr1d]
        simp only [Result.andThen]
        rw [Oper.upon_value]
        go_wp2_with fail
        rw [run_back hr3d]
        simp only [Result.andThen]
        rw [Oper.upon_value]
        go_wp2_with fail
        rw [run_back (B := 0) (l := []) Reads.none_]
        simp only [Result.andThen]
        rw [Oper.upon_value]
        go_wp2_with fail
        rw [run_back (B := 0) (l := []) Reads.none_]
        simp only [Result.andThen]
        rw [Oper.upon_value]
        go_wp2_with fail
        refine (awake_any w4).mono ?_
        rintro e w7 ⟨rfl, hb7⟩
        go_wp2
        go_ret
        exact ⟨rfl, hb14.trans (hb7.mono hz4)⟩
      · obtain ⟨A2, c2, rfl, hc2⟩ := own_form_cap hown2
        have hr2 := Reads.of_own hown2
        have ho2 : o2.length ≤ 1000 := hL2 _ h2
        clear hown2
        
        have H2 := Lib.hid h2
        have hb12 := hb1.trans (hb2.mono hz1)
        have hz2 := hb12.size
        have hr1b := (hr1.below hb2).more hb2.size
        clear h2 hb1 hz1 hb2 hL1 hL2 hr1
        go_wp2_with fail
        refine (refUnhex_any s w2 (by omega)).mono ?_
        rintro e w3 hend3
        rcases hend3 with ⟨h3, v3, rfl, hown3, hb3⟩ | ⟨o3, v3, h3, rfl, hown3, hb3⟩
        · exact absurd (H1.out.symm.trans h3) (by simp)
        obtain rfl : o3 = o1 := by
          have := h3.symm.trans H1.out
          simpa using this
        obtain ⟨A3, c3, rfl, _⟩ := own_form_cap hown3
        have hr3 := Reads.of_own (c := c3) hown3
        have hr1c := (hr1b.below hb3).more hb3.size
        have hr2c := (hr2.below hb3).more hb3.size
        have hb13 := hb12.trans (hb3.mono hz2)
        have hz3 := hb13.size
        clear h3 hown3 hb12 hz2 hb3 hr1b hr2
        go_wp2_with fail
        refine (refUnbase64_any s w3 (by omega)).mono ?_
        rintro e w4 hend4
        rcases hend4 with ⟨h4, v4, rfl, hown4, hb4⟩ | ⟨o4, v4, h4, rfl, hown4, hb4⟩
        · exact absurd (H2.out.symm.trans h4) (by simp)
        obtain rfl : o4 = o2 := by
          have := h4.symm.trans H2.out
          simpa using this
        obtain ⟨A4, c4, rfl, _⟩ := own_form_cap hown4
        have hr4 := Reads.of_own (c := c4) hown4
        have hr2d := (hr2c.below hb4).more hb4.size
        have hr3d := (hr3.below hb4).more hb4.size
        have hr1d := (hr1c.below hb4).more hb4.size
        have hBB := HBB.out _ h4
        have hb14 := hb13.trans (hb4.mono hz3)
        have hz4 := hb14.size
        clear h4 hown4 hb13 hz3 hb4 hr3 HBB hr1c hr2c
        go_wp2_with fail
        rw [run_back hr1d]
        simp only [Result.andThen]
        rw [Oper.upon_value]
        go_wp2_with fail
        rw [run_back hr3d]
        simp only [Result.andThen]
        rw [Oper.upon_value]
        go_wp2_with fail
        rw [run_back hr2d]
        simp only [Result.andThen]
        rw [Oper.upon_value]
        go_wp2_with fail
        rw [run_back hr4]
        simp only [Result.andThen]
        rw [Oper.upon_value]
        go_wp2_with fail
        refine (base64_any A2 _ c2 o4 w4 hr2d (by omega) hc2).mono ?_
        rintro e w5 ⟨rfl, hb5⟩
        have hb15 := hb14.trans (hb5.mono hz4)
        rw [hBB]
        go_wp2_with fail
        refine (awake_any w5).mono ?_
        rintro e w7 ⟨rfl, hb7⟩
        go_wp2
        go_ret
        exact ⟨rfl, hb15.trans (hb7.mono hb15.size)⟩
end Go.Proofs.YtibebghnhicmfaaDoor
