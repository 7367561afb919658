/-
  The walk of the law NotationReads. Conditions: the library's table of powers of ten holds what its text lays.
-/
import Derived.Test.YtcojkmcnigppbaaGreatDoorM5
import Derived.Test.YtcojkmcnigppbaaGreatDoorNotRef14Z
import Derived.Deep.RegionHeld3
set_option linter.unusedVariables false
set_option linter.unusedSimpArgs false
open Go.Lib (hid)
open Go.Proofs.YtcojkmcnigppbaaGreatDoor (zA zB zC zD zE zF)
set_option maxRecDepth 100000
namespace Go.Proofs.YtcojkmcnigppbaaGreatDoor
open Go Go.Proofs Go.RowKit Sx Oct Nt Np
set_option maxHeartbeats 4000000 in
theorem nreads3_walk (s : ByteArray) (w : World) (ht : Tab w) :
    Calls Tryz.prog 4 #[.string s] w fun e w' => e = .returned (.bool true) ∧ Below w.heap.size w w' := by
  have HT := hid (fun W hb => ht.old (w' := W) hb)
  have CA := hid (fun W hb => awake3_any W (HT.out W hb))
  by_cases h5 : 20000 < s.size
  · have h5' : (20000 : Int) < s.size := by omega
    go_enter Tryz.func4, Tryz.ntmps4
    go_wp2_with ((with_reducible refine (CA.out _ (Below.refl _ _)).mono ?_); rintro e wA ⟨rfl, hbA⟩)
    go_ret
    exact ⟨rfl, hbA⟩
  have h5' : ¬ (20000 : Int) < s.size := by omega
  have C1 := Read_any s w ht
  have C2 := fun W => refRead_any s W (by omega)
  obtain ⟨x, hx⟩ : ∃ x, x = aRead s.data.toList := ⟨_, rfl⟩
  rw [← hx] at C1
  simp only [← hx] at C2
  obtain ⟨t, p, k⟩ := x
  replace C1 := hid C1
  replace C2 := hid C2
  clear hx
  go_enter Tryz.func4, Tryz.ntmps4
  go_wp2_with fail
  refine C1.out.mono ?_
  rintro e w1 ⟨v0, v1, v2, v3, v4, rfl, hin, hb1⟩
  obtain ⟨l1, h1, hi1, da1, ks1, B11, m11, j11, B21, m21, j21, B31, m31, j31, eZ, eE⟩ := hin.form_
  injection eE with eE0 eE; injection eE with eE1 eE; injection eE with eE2 eE; injection eE with eE3 eE; injection eE with eE4 eE
  subst eE0 eE1 eE2 eE3 eE4
  clear eE eZ
  have X0 : Box (w1.alloc (.cells #[.bool false, .bool false, .slice none 0 0, .slice none 0 0, .slice none 0 0] 25)) w1.heap.size (.bool false) (.bool false) (.slice none 0 0) (.slice none 0 0) (.slice none 0 0) := heap_alloc_new w1 _
  obtain ⟨⟨d0, d1, d2, d3, d4⟩, dz⟩ := (X0).all
  have dz0 := dz 0
  have dz1 := dz 1
  have dz2 := dz 2
  have dz3 := dz 3
  have dz4 := dz 4
  clear dz
  have hbx := below_new w1 (.cells #[.bool l1, .bool h1, .slice B11 m11 j11, .slice B21 m21 j21, .slice B31 m31 j31] 25)
  have hst1 := hb1.trans (hbx.mono hb1.size)
  have HB1 := hid ((Below.refl w.heap.size w).trans (hst1.mono (Below.refl w.heap.size w).size))
  have HX1 := hid (show Box (w1.alloc (.cells #[.bool l1, .bool h1, .slice B11 m11 j11, .slice B21 m21 j21, .slice B31 m31 j31] 25)) w1.heap.size (.bool l1) (.bool h1) (.slice B11 m11 j11) (.slice B21 m21 j21) (.slice B31 m31 j31) from heap_alloc_new w1 _)
  have HN1 := hid (hin.old hbx)
  clear X0 hin hb1 hbx
  generalize hP1 : (w1.alloc (.cells #[.bool l1, .bool h1, .slice B11 m11 j11, .slice B21 m21 j21, .slice B31 m31 j31] 25)) = P1 at HB1 HX1 HN1
  subst hP1
  go_wp2_with fail
  generalize (w1.alloc (.cells #[.bool l1, .bool h1, .slice B11 m11 j11, .slice B21 m21 j21, .slice B31 m31 j31] 25)) = P1 at *
  clear d0 d1 d2 d3 d4 dz0 dz1 dz2 dz3 dz4 hst1 
  replace C2 := hid (C2.out P1)
  refine C2.out.mono ?_
  rintro e w2 ⟨v0, v1, v2, v3, v4, rfl, hin, hb2⟩
  obtain ⟨l2, h2, hi2, da2, ks2, B12, m12, j12, B22, m22, j22, B32, m32, j32, eZ, eE⟩ := hin.form_
  injection eE with eE0 eE; injection eE with eE1 eE; injection eE with eE2 eE; injection eE with eE3 eE; injection eE with eE4 eE
  subst eE0 eE1 eE2 eE3 eE4
  clear eE eZ
  have X0 : Box (w2.alloc (.cells #[.bool false, .bool false, .slice none 0 0, .slice none 0 0, .slice none 0 0] 25)) w2.heap.size (.bool false) (.bool false) (.slice none 0 0) (.slice none 0 0) (.slice none 0 0) := heap_alloc_new w2 _
  obtain ⟨⟨d0, d1, d2, d3, d4⟩, dz⟩ := (X0).all
  have dz0 := dz 0
  have dz1 := dz 1
  have dz2 := dz 2
  have dz3 := dz 3
  have dz4 := dz 4
  clear dz
  have hbx := below_new w2 (.cells #[.bool l2, .bool h2, .slice B12 m12 j12, .slice B22 m22 j22, .slice B32 m32 j32] 25)
  have hst2 := hb2.trans (hbx.mono hb2.size)
  have HB2 := hid ((HB1.out).trans (hst2.mono (HB1.out).size))
  have HX2 := hid (show Box (w2.alloc (.cells #[.bool l2, .bool h2, .slice B12 m12 j12, .slice B22 m22 j22, .slice B32 m32 j32] 25)) w2.heap.size (.bool l2) (.bool h2) (.slice B12 m12 j12) (.slice B22 m22 j22) (.slice B32 m32 j32) from heap_alloc_new w2 _)
  have HN2 := hid (hin.old hbx)
  clear X0 hin hb2 hbx
  replace HX1 := hid (HX1.out.old hst2)
  replace HN1 := hid (HN1.out.old hst2)
  obtain ⟨⟨x1_0, x1_1, x1_2, x1_3, x1_4⟩, x1_z⟩ := (HX1.out).all
  clear x1_z
  obtain ⟨⟨x2_0, x2_1, x2_2, x2_3, x2_4⟩, x2_z⟩ := (HX2.out).all
  clear x2_z
  generalize hP2 : (w2.alloc (.cells #[.bool l2, .bool h2, .slice B12 m12 j12, .slice B22 m22 j22, .slice B32 m32 j32] 25)) = P2 at HB2 HX1 HN1 HX2 HN2
  have C3 := hid (refSame_any t t _ _ _ _ _ HN1.out HN2.out)
  rw [show same t t = true from same_refl _] at C3
  subst hP2
  go_wp2_with fail
  generalize (w2.alloc (.cells #[.bool l2, .bool h2, .slice B12 m12 j12, .slice B22 m22 j22, .slice B32 m32 j32] 25)) = P2 at *
  clear d0 d1 d2 d3 d4 dz0 dz1 dz2 dz3 dz4 hst2 x1_0 x1_1 x1_2 x1_3 x1_4 x2_0 x2_1 x2_2 x2_3 x2_4
  refine C3.out.mono ?_
  rintro e w5 ⟨rfl, hb⟩
  have HB_w5 := hid ((HB2.out).trans (hb.mono (HB2.out).size))
  replace HX1 := hid (HX1.out.old hb)
  replace HN1 := hid (HN1.out.old hb)
  replace HX2 := hid (HX2.out.old hb)
  replace HN2 := hid (HN2.out.old hb)
  clear hb
  go_wp2_with fail
  refine (CA.out _ HB_w5.out).mono ?_
  rintro e wA ⟨rfl, hbA⟩
  go_wp2_with fail
  go_ret
  exact ⟨rfl, (HB_w5.out).trans (hbA.mono (HB_w5.out).size)⟩
end Go.Proofs.YtcojkmcnigppbaaGreatDoor
