/-
  The walk of the law NotationAgrees. Conditions: the library's table of powers of ten holds what its text lays.
-/
import Derived.Test.YtcojkmcnigppbaaGreatDoorM5
import Derived.Test.YtcojkmcnigppbaaGreatDoorRowBytesZ
import Derived.Deep.RegionHeld3
set_option linter.unusedVariables false
set_option linter.unusedSimpArgs false
open Go.Lib (hid)
open Go.Proofs.YtcojkmcnigppbaaGreatDoor (zA zB zC zD zE zF)
set_option maxRecDepth 100000
namespace Go.Proofs.YtcojkmcnigppbaaGreatDoor
open Go Go.Proofs Go.RowKit Sx Oct Nt Np
set_option maxHeartbeats 8000000 in
theorem nagrees3_walk (A : Option Addr) (n c : Nat) (b : List UInt8) (S : Nat → Prop) (w : World) (hr : RIn w S 1 A n (Lib.byteCells b)) (hc : n ≤ c) (ht : Tab w) :
    Calls Tryz.prog 8 #[.slice A n c] w fun e w' => e = .returned (.bool true) ∧ Below w.heap.size w w' := by
  have hbl : b.length = n := by have := hr.1; simpa [Lib.byteCells_length] using this
  have HT := hid (fun W hb => ht.old (w' := W) hb)
  have CA := hid (fun W hb => awake3_any W (HT.out W hb))
  have HR := hid (fun W (hb : Below w.heap.size w W) => (hr.old (w' := W) (by omega) hb).reads (by omega))
  by_cases h5 : 5000 < n
  · have h5' : (5000 : Int) < n := by omega
    clear hr
    go_enter Tryz.func8, Tryz.ntmps8
    go_wp2_with ((with_reducible refine (CA.out _ (Below.refl _ _)).mono ?_); rintro e wA ⟨rfl, hbA⟩)
    go_ret
    exact ⟨rfl, hbA⟩
  have h5' : ¬ (5000 : Int) < n := by omega
  have C1 := get_any A n c b w (HR.out w (Below.refl _ _)) hc
  clear hr
  obtain ⟨x, hx⟩ : ∃ x, x = pGet b := ⟨_, rfl⟩
  rw [← hx] at C1
  obtain ⟨t, p, k⟩ := x
  replace C1 := hid C1
  rcases Nat.eq_zero_or_pos k with hk0 | hk0
  · subst hk0
    obtain ⟨hf, hm, hp0⟩ := pGetOk hx.symm
    have CB := hid (fun W (hb : Below w.heap.size w W) => refBase64_any A n c b W (HR.out W hb) (by omega))
    obtain ⟨s0, hs0⟩ : ∃ s0 : ByteArray, s0 = ⟨(b64 b).toArray⟩ := ⟨_, rfl⟩
    rw [← hs0] at CB
    have hlb := b64_length b
    have hs0l : s0.size ≤ 30000 := by rw [hs0]; show (b64 b).toArray.size ≤ _; simp; omega
    have hsU : ((⟨#[123]⟩ : ByteArray) ++ s0 ++ ⟨#[125]⟩).data.toList = aPack t := by rw [hs0]; unfold aPack; rw [hf]; simp
    have hpl := pack_length hm
    have hrd := aUnpack_pack hm (b1 := []) (b2 := []) (by simp) (by simp) (by simp; omega)
    rw [List.append_nil, List.nil_append] at hrd
    have C2 := fun W (hb : Below w.heap.size w W) => Unpack_any ((⟨#[123]⟩ : ByteArray) ++ s0 ++ ⟨#[125]⟩) W (HT.out W hb)
    simp only [hsU, hrd] at C2
    replace C2 := hid C2
    have hple := aPrint_le t
    have hfl : (form t).length ≤ 4096 := (may_ok hm).2.2.2
    have hrp := aRead_print hm (b1 := []) (b2 := []) (by simp) (by simp) (by simp; omega)
    rw [List.append_nil, List.nil_append] at hrp
    have C4 := fun W (hb : Below w.heap.size w W) => Read_any (prt t) W (HT.out W hb)
    simp only [show (prt t).data.toList = aPrint t by unfold prt; simp, hrp] at C4
    have hps : (prt t).size ≤ 16384 := by unfold prt; show (aPrint t).toArray.size ≤ _; simp; omega
    have CP : ∀ W (S : Nat → Prop) (cs : List Value), Below w.heap.size w W → SIn W S t cs → Calls Tryz.prog 11 #[.agg cs.toArray] W fun e w' => e = .returned (.tuple #[.string (prt t), .int .i64 0]) ∧ Below W.heap.size W w' := fun W S cs hb hs => by
      have := print_any t W S cs hs (HT.out W hb)
      rw [hm, if_pos rfl] at this
      exact this
    generalize prt t = sP at *
    replace C4 := hid C4
    replace CP := hid CP
    have hq1 : ¬ 9223372036854775807 < 1 + s0.size := by omega
    have hq2 : ¬ 9223372036854775807 < 1 + s0.size + 1 := by omega
    have hps' : ¬ (16384 : Int) < sP.size := by omega
    clear hx hf hm hp0 hs0 hlb hsU hpl hrd hple hfl hrp hs0l hps
    go_enter Tryz.func8, Tryz.ntmps8
    go_wp2_with fail
    refine C1.out.mono ?_
    rintro e w1 ⟨v0, v1, v2, v3, v4, rfl, hin, hb1⟩
    obtain ⟨l1, h1, hi1, da1, ks1, B11, m11, j11, B21, m21, j21, B31, m31, j31, eZ, eE⟩ := hin.form_
    injection eE with eE0 eE; injection eE with eE1 eE; injection eE with eE2 eE; injection eE with eE3 eE; injection eE with eE4 eE
    subst eE0 eE1 eE2 eE3 eE4
    clear eE eZ
    have X0 : Box (w1.alloc (.cells #[.bool false, .bool false, .slice none 0 0, .slice none 0 0, .slice none 0 0] 25)) w1.heap.size (.bool false) (.bool false) (.slice none 0 0) (.slice none 0 0) (.slice none 0 0) := heap_alloc_new w1 _
    obtain ⟨⟨d0, d1, d2, d3, d4⟩, dz⟩ := (X0).all
    have dz0 := dz 0
    have dz1 := dz 1
    have dz2 := dz 2
    have dz3 := dz 3
    have dz4 := dz 4
    clear dz
    have hbx := below_new w1 (.cells #[.bool l1, .bool h1, .slice B11 m11 j11, .slice B21 m21 j21, .slice B31 m31 j31] 25)
    have hst1 := hb1.trans (hbx.mono hb1.size)
    have HB1 := hid ((Below.refl w.heap.size w).trans (hst1.mono (Below.refl w.heap.size w).size))
    have HX1 := hid (show Box (w1.alloc (.cells #[.bool l1, .bool h1, .slice B11 m11 j11, .slice B21 m21 j21, .slice B31 m31 j31] 25)) w1.heap.size (.bool l1) (.bool h1) (.slice B11 m11 j11) (.slice B21 m21 j21) (.slice B31 m31 j31) from heap_alloc_new w1 _)
    have HN1 := hid (hin.old hbx)
    clear X0 hin hb1 hbx
    generalize hP1 : (w1.alloc (.cells #[.bool l1, .bool h1, .slice B11 m11 j11, .slice B21 m21 j21, .slice B31 m31 j31] 25)) = P1 at HB1 HX1 HN1
    subst hP1
    go_wp2_with fail
    generalize (w1.alloc (.cells #[.bool l1, .bool h1, .slice B11 m11 j11, .slice B21 m21 j21, .slice B31 m31 j31] 25)) = P1 at *
    clear d0 d1 d2 d3 d4 dz0 dz1 dz2 dz3 dz4 hst1 
    replace CB := hid (CB.out _ HB1.out)
    refine CB.out.mono ?_
    rintro e w2 ⟨rfl, hb⟩
    have HB_w2 := hid ((HB1.out).trans (hb.mono (HB1.out).size))
    replace HX1 := hid (HX1.out.old hb)
    replace HN1 := hid (HN1.out.old hb)
    clear hb
    go_wp2_with fail
    replace C2 := hid (C2.out _ HB_w2.out)
    refine C2.out.mono ?_
    rintro e w3 ⟨v0, v1, v2, v3, v4, rfl, hin, hb3⟩
    obtain ⟨l3, h3, hi3, da3, ks3, B13, m13, j13, B23, m23, j23, B33, m33, j33, eZ, eE⟩ := hin.form_
    injection eE with eE0 eE; injection eE with eE1 eE; injection eE with eE2 eE; injection eE with eE3 eE; injection eE with eE4 eE
    subst eE0 eE1 eE2 eE3 eE4
    clear eE eZ
    have X0 : Box (w3.alloc (.cells #[.bool false, .bool false, .slice none 0 0, .slice none 0 0, .slice none 0 0] 25)) w3.heap.size (.bool false) (.bool false) (.slice none 0 0) (.slice none 0 0) (.slice none 0 0) := heap_alloc_new w3 _
    obtain ⟨⟨d0, d1, d2, d3, d4⟩, dz⟩ := (X0).all
    have dz0 := dz 0
    have dz1 := dz 1
    have dz2 := dz 2
    have dz3 := dz 3
    have dz4 := dz 4
    clear dz
    have hbx := below_new w3 (.cells #[.bool l3, .bool h3, .slice B13 m13 j13, .slice B23 m23 j23, .slice B33 m33 j33] 25)
    have hst3 := hb3.trans (hbx.mono hb3.size)
    have HB3 := hid ((HB_w2.out).trans (hst3.mono (HB_w2.out).size))
    have HX3 := hid (show Box (w3.alloc (.cells #[.bool l3, .bool h3, .slice B13 m13 j13, .slice B23 m23 j23, .slice B33 m33 j33] 25)) w3.heap.size (.bool l3) (.bool h3) (.slice B13 m13 j13) (.slice B23 m23 j23) (.slice B33 m33 j33) from heap_alloc_new w3 _)
    have HN3 := hid (hin.old hbx)
    clear X0 hin hb3 hbx
    replace HX1 := hid (HX1.out.old hst3)
    replace HN1 := hid (HN1.out.old hst3)
    obtain ⟨⟨x1_0, x1_1, x1_2, x1_3, x1_4⟩, x1_z⟩ := (HX1.out).all
    clear x1_z
    generalize hP3 : (w3.alloc (.cells #[.bool l3, .bool h3, .slice B13 m13 j13, .slice B23 m23 j23, .slice B33 m33 j33] 25)) = P3 at HB3 HX1 HN1 HX3 HN3
    replace CP := hid (CP.out _ _ _ HB3.out HN1.out)
    subst hP3
    go_wp2_with fail
    generalize (w3.alloc (.cells #[.bool l3, .bool h3, .slice B13 m13 j13, .slice B23 m23 j23, .slice B33 m33 j33] 25)) = P3 at *
    clear d0 d1 d2 d3 d4 dz0 dz1 dz2 dz3 dz4 hst3 x1_0 x1_1 x1_2 x1_3 x1_4
    refine CP.out.mono ?_
    rintro e w4 ⟨rfl, hb⟩
    have HB_w4 := hid ((HB3.out).trans (hb.mono (HB3.out).size))
    replace HX1 := hid (HX1.out.old hb)
    replace HN1 := hid (HN1.out.old hb)
    replace HX3 := hid (HX3.out.old hb)
    replace HN3 := hid (HN3.out.old hb)
    clear hb
    go_wp2_with fail
    replace C4 := hid (C4.out _ HB_w4.out)
    refine C4.out.mono ?_
    rintro e w5 ⟨v0, v1, v2, v3, v4, rfl, hin, hb5⟩
    obtain ⟨l5, h5, hi5, da5, ks5, B15, m15, j15, B25, m25, j25, B35, m35, j35, eZ, eE⟩ := hin.form_
    injection eE with eE0 eE; injection eE with eE1 eE; injection eE with eE2 eE; injection eE with eE3 eE; injection eE with eE4 eE
    subst eE0 eE1 eE2 eE3 eE4
    clear eE eZ
    have X0 : Box (w5.alloc (.cells #[.bool false, .bool false, .slice none 0 0, .slice none 0 0, .slice none 0 0] 25)) w5.heap.size (.bool false) (.bool false) (.slice none 0 0) (.slice none 0 0) (.slice none 0 0) := heap_alloc_new w5 _
    obtain ⟨⟨d0, d1, d2, d3, d4⟩, dz⟩ := (X0).all
    have dz0 := dz 0
    have dz1 := dz 1
    have dz2 := dz 2
    have dz3 := dz 3
    have dz4 := dz 4
    clear dz
    have hbx := below_new w5 (.cells #[.bool l5, .bool h5, .slice B15 m15 j15, .slice B25 m25 j25, .slice B35 m35 j35] 25)
    have hst5 := hb5.trans (hbx.mono hb5.size)
    have HB5 := hid ((HB_w4.out).trans (hst5.mono (HB_w4.out).size))
    have HX5 := hid (show Box (w5.alloc (.cells #[.bool l5, .bool h5, .slice B15 m15 j15, .slice B25 m25 j25, .slice B35 m35 j35] 25)) w5.heap.size (.bool l5) (.bool h5) (.slice B15 m15 j15) (.slice B25 m25 j25) (.slice B35 m35 j35) from heap_alloc_new w5 _)
    have HN5 := hid (hin.old hbx)
    clear X0 hin hb5 hbx
    replace HX1 := hid (HX1.out.old hst5)
    replace HN1 := hid (HN1.out.old hst5)
    replace HX3 := hid (HX3.out.old hst5)
    replace HN3 := hid (HN3.out.old hst5)
    obtain ⟨⟨x1_0, x1_1, x1_2, x1_3, x1_4⟩, x1_z⟩ := (HX1.out).all
    clear x1_z
    obtain ⟨⟨x3_0, x3_1, x3_2, x3_3, x3_4⟩, x3_z⟩ := (HX3.out).all
    clear x3_z
    generalize hP5 : (w5.alloc (.cells #[.bool l5, .bool h5, .slice B15 m15 j15, .slice B25 m25 j25, .slice B35 m35 j35] 25)) = P5 at HB5 HX1 HN1 HX3 HN3 HX5 HN5
    have C5 := hid (refSame_any t t _ _ _ _ _ HN1.out HN3.out)
    rw [show same t t = true from same_refl _] at C5
    subst hP5
    go_wp2_with fail
    generalize (w5.alloc (.cells #[.bool l5, .bool h5, .slice B15 m15 j15, .slice B25 m25 j25, .slice B35 m35 j35] 25)) = P5 at *
    clear d0 d1 d2 d3 d4 dz0 dz1 dz2 dz3 dz4 hst5 x1_0 x1_1 x1_2 x1_3 x1_4 x3_0 x3_1 x3_2 x3_3 x3_4
    refine C5.out.mono ?_
    rintro e w6 ⟨rfl, hb⟩
    have HB_w6 := hid ((HB5.out).trans (hb.mono (HB5.out).size))
    replace HX1 := hid (HX1.out.old hb)
    replace HN1 := hid (HN1.out.old hb)
    replace HX3 := hid (HX3.out.old hb)
    replace HN3 := hid (HN3.out.old hb)
    replace HX5 := hid (HX5.out.old hb)
    replace HN5 := hid (HN5.out.old hb)
    clear hb
    obtain ⟨⟨x1_0, x1_1, x1_2, x1_3, x1_4⟩, x1_z⟩ := (HX1.out).all
    clear x1_z
    obtain ⟨⟨x5_0, x5_1, x5_2, x5_3, x5_4⟩, x5_z⟩ := (HX5.out).all
    clear x5_z
    have C6 := hid (refSame_any t t _ _ _ _ _ HN1.out HN5.out)
    rw [show same t t = true from same_refl _] at C6
    go_wp2_with fail
    clear x1_0 x1_1 x1_2 x1_3 x1_4 x5_0 x5_1 x5_2 x5_3 x5_4
    refine C6.out.mono ?_
    rintro e w7 ⟨rfl, hb⟩
    have HB_w7 := hid ((HB_w6.out).trans (hb.mono (HB_w6.out).size))
    replace HX1 := hid (HX1.out.old hb)
    replace HN1 := hid (HN1.out.old hb)
    replace HX3 := hid (HX3.out.old hb)
    replace HN3 := hid (HN3.out.old hb)
    replace HX5 := hid (HX5.out.old hb)
    replace HN5 := hid (HN5.out.old hb)
    clear hb
    go_wp2_with fail
    refine (CA.out _ HB_w7.out).mono ?_
    rintro e wA ⟨rfl, hbA⟩
    go_wp2_with fail
    go_ret
    exact ⟨rfl, (HB_w7.out).trans (hbA.mono (HB_w7.out).size)⟩
  · have hk0' : ¬ ((k : Int) = 0) := by omega
    clear hx hk0
    go_enter Tryz.func8, Tryz.ntmps8
    go_wp2_with fail
    refine C1.out.mono ?_
    rintro e w1 ⟨v0, v1, v2, v3, v4, rfl, hin, hb1⟩
    obtain ⟨l1, h1, hi1, da1, ks1, B11, m11, j11, B21, m21, j21, B31, m31, j31, eZ, eE⟩ := hin.form_
    injection eE with eE0 eE; injection eE with eE1 eE; injection eE with eE2 eE; injection eE with eE3 eE; injection eE with eE4 eE
    subst eE0 eE1 eE2 eE3 eE4
    clear eE eZ
    have X0 : Box (w1.alloc (.cells #[.bool false, .bool false, .slice none 0 0, .slice none 0 0, .slice none 0 0] 25)) w1.heap.size (.bool false) (.bool false) (.slice none 0 0) (.slice none 0 0) (.slice none 0 0) := heap_alloc_new w1 _
    obtain ⟨⟨d0, d1, d2, d3, d4⟩, dz⟩ := (X0).all
    have dz0 := dz 0
    have dz1 := dz 1
    have dz2 := dz 2
    have dz3 := dz 3
    have dz4 := dz 4
    clear dz
    have hbx := below_new w1 (.cells #[.bool l1, .bool h1, .slice B11 m11 j11, .slice B21 m21 j21, .slice B31 m31 j31] 25)
    have hst1 := hb1.trans (hbx.mono hb1.size)
    have HB1 := hid ((Below.refl w.heap.size w).trans (hst1.mono (Below.refl w.heap.size w).size))
    have HX1 := hid (show Box (w1.alloc (.cells #[.bool l1, .bool h1, .slice B11 m11 j11, .slice B21 m21 j21, .slice B31 m31 j31] 25)) w1.heap.size (.bool l1) (.bool h1) (.slice B11 m11 j11) (.slice B21 m21 j21) (.slice B31 m31 j31) from heap_alloc_new w1 _)
    have HN1 := hid (hin.old hbx)
    clear X0 hin hb1 hbx
    generalize hP1 : (w1.alloc (.cells #[.bool l1, .bool h1, .slice B11 m11 j11, .slice B21 m21 j21, .slice B31 m31 j31] 25)) = P1 at HB1 HX1 HN1
    subst hP1
    go_wp2_with fail
    generalize (w1.alloc (.cells #[.bool l1, .bool h1, .slice B11 m11 j11, .slice B21 m21 j21, .slice B31 m31 j31] 25)) = P1 at *
    clear d0 d1 d2 d3 d4 dz0 dz1 dz2 dz3 dz4 hst1 
    refine (CA.out _ HB1.out).mono ?_
    rintro e wA ⟨rfl, hbA⟩
    go_wp2_with fail
    go_ret
    exact ⟨rfl, (HB1.out).trans (hbA.mono (HB1.out).size)⟩
end Go.Proofs.YtcojkmcnigppbaaGreatDoor
