/-
  The walk of the law NotationPrints. Conditions: the library's table of powers of ten holds what its text lays; the tree has at most 2^40 nodes, and its form as many bytes.
-/
import Derived.Test.YtcojkmcnigppbaaGreatDoorM5
import Derived.Test.YtcojkmcnigppbaaGreatDoorNpPackZ
import Derived.Test.YtcojkmcnigppbaaGreatDoorNotRef16Z
import Derived.Deep.RegionHeld3
set_option linter.unusedVariables false
set_option linter.unusedSimpArgs false
open Go.Lib (hid)
open Go.Proofs.YtcojkmcnigppbaaGreatDoor (zA zB zC zD zE zF)
set_option maxRecDepth 100000
namespace Go.Proofs.YtcojkmcnigppbaaGreatDoor
open Go Go.Proofs Go.RowKit Sx Oct Nt Np
set_option maxHeartbeats 8000000 in
theorem nprints3_walk (t : SX) (w : World) (S : Nat → Prop) (cs : List Value) (hs : SIn w S t cs) (ht : Tab w) (hn : nodes t ≤ 1099511627776) (hf : (form t).length ≤ 1099511627776) :
    Calls Tryz.prog 3 #[.agg cs.toArray] w fun e w' => e = .returned (.bool true) ∧ Below w.heap.size w w' := by
  obtain ⟨l0, h0, hi0, da0, ks0, B10, m10, j10, B20, m20, j20, B30, m30, j30, eT, rfl⟩ := hs.form_
  have hb0 := below_new w (.cells #[.bool l0, .bool h0, .slice B10 m10 j10, .slice B20 m20 j20, .slice B30 m30 j30] 25)
  have HB0 := hid hb0
  have HX0 := hid (show Box (w.alloc (.cells #[.bool l0, .bool h0, .slice B10 m10 j10, .slice B20 m20 j20, .slice B30 m30 j30] 25)) w.heap.size (.bool l0) (.bool h0) (.slice B10 m10 j10) (.slice B20 m20 j20) (.slice B30 m30 j30) from heap_alloc_new w _)
  have HN0 := hid (hs.old hb0)
  have HT := hid (fun W hb => ht.old (w' := W) hb)
  have CA := hid (fun W hb => awake3_any W (HT.out W hb))
  have C1 := hid (great_any t _ S _ 0 (hs.old hb0) (by omega) (by omega))
  clear hs ht hb0 eT
  have C2 := hid (fun W (S : Nat → Prop) (cs : List Value) (hs : SIn W S t cs) => refMay_any t W S cs hs hn hf)
  cases hm : may t with
  | false =>
    have CP : Hid (∀ W (S : Nat → Prop) (cs : List Value), Below w.heap.size w W → SIn W S t cs → Calls Tryz.prog 11 #[.agg cs.toArray] W fun e w' => e = .returned (.tuple #[.string ⟨#[]⟩, .int .i64 4]) ∧ Below W.heap.size W w') := hid fun W S cs hb hs => by
      have := print_any t W S cs hs (HT.out W hb)
      rw [hm] at this
      exact this
    have CK : Hid (∀ W (S : Nat → Prop) (cs : List Value), Below w.heap.size w W → SIn W S t cs → Calls Tryz.prog 12 #[.agg cs.toArray] W fun e w' => e = .returned (.tuple #[.string ⟨#[]⟩, .int .i64 4]) ∧ Below W.heap.size W w') := hid fun W S cs hb hs => by
      have := pack_any t W S cs hs (HT.out W hb)
      rw [hm] at this
      exact this
    rw [hm] at C2
    clear hm
    go_enter Tryz.func3, Tryz.ntmps3
    go_wp2_with fail
    generalize (w.alloc (.cells #[.bool l0, .bool h0, .slice B10 m10 j10, .slice B20 m20 j20, .slice B30 m30 j30] 25)) = P0 at *
    refine C1.out.mono ?_
    rintro e w1 ⟨b, rfl, hb⟩
    have HB_w1 := hid ((HB0.out).trans (hb.mono (HB0.out).size))
    replace HX0 := hid (HX0.out.old hb)
    replace HN0 := hid (HN0.out.old hb)
    clear hb
    cases b with
    | true =>
      go_wp2_with fail
      refine (CA.out _ HB_w1.out).mono ?_
      rintro e wA ⟨rfl, hbA⟩
      go_wp2_with fail
      go_ret
      exact ⟨rfl, (HB_w1.out).trans (hbA.mono (HB_w1.out).size)⟩
    | false =>
    obtain ⟨⟨x0_0, x0_1, x0_2, x0_3, x0_4⟩, x0_z⟩ := (HX0.out).all
    clear x0_z
    replace CP := hid (CP.out _ _ _ HB_w1.out HN0.out)
    go_wp2_with fail
    clear x0_0 x0_1 x0_2 x0_3 x0_4
    refine CP.out.mono ?_
    rintro e w2 ⟨rfl, hb⟩
    have HB_w2 := hid ((HB_w1.out).trans (hb.mono (HB_w1.out).size))
    replace HX0 := hid (HX0.out.old hb)
    replace HN0 := hid (HN0.out.old hb)
    clear hb
    obtain ⟨⟨x0_0, x0_1, x0_2, x0_3, x0_4⟩, x0_z⟩ := (HX0.out).all
    clear x0_z
    replace CK := hid (CK.out _ _ _ HB_w2.out HN0.out)
    go_wp2_with fail
    clear x0_0 x0_1 x0_2 x0_3 x0_4
    refine CK.out.mono ?_
    rintro e w3 ⟨rfl, hb⟩
    have HB_w3 := hid ((HB_w2.out).trans (hb.mono (HB_w2.out).size))
    replace HX0 := hid (HX0.out.old hb)
    replace HN0 := hid (HN0.out.old hb)
    clear hb
    obtain ⟨⟨x0_0, x0_1, x0_2, x0_3, x0_4⟩, x0_z⟩ := (HX0.out).all
    clear x0_z
    replace C2 := hid (C2.out _ _ _ HN0.out)
    go_wp2_with fail
    clear x0_0 x0_1 x0_2 x0_3 x0_4
    refine C2.out.mono ?_
    rintro e w4 ⟨rfl, hb⟩
    have HB_w4 := hid ((HB_w3.out).trans (hb.mono (HB_w3.out).size))
    replace HX0 := hid (HX0.out.old hb)
    replace HN0 := hid (HN0.out.old hb)
    clear hb
    go_wp2_with fail
    refine (CA.out _ HB_w4.out).mono ?_
    rintro e wA ⟨rfl, hbA⟩
    go_wp2_with fail
    go_ret
    exact ⟨rfl, (HB_w4.out).trans (hbA.mono (HB_w4.out).size)⟩
  | true =>
    have hfl : (form t).length ≤ 4096 := (may_ok hm).2.2.2
    have hple := aPrint_le t
    have hlb := b64_length (form t)
    obtain ⟨s0, hs0⟩ : ∃ s0 : ByteArray, s0 = ⟨(b64 (form t)).toArray⟩ := ⟨_, rfl⟩
    have hs0l : s0.size ≤ 30000 := by rw [hs0]; show (b64 (form t)).toArray.size ≤ _; simp; omega
    have hsU : ((⟨#[123]⟩ : ByteArray) ++ s0 ++ ⟨#[125]⟩).data.toList = aPack t := by rw [hs0]; unfold aPack; simp
    have hpk : pck t = (⟨#[123]⟩ : ByteArray) ++ s0 ++ ⟨#[125]⟩ := by rw [hs0]; exact (join3 123 125 _).symm
    have hps : (prt t).size ≤ 16384 := by unfold prt; show (aPrint t).toArray.size ≤ _; simp; omega
    have CP : ∀ W (S : Nat → Prop) (cs : List Value), Below w.heap.size w W → SIn W S t cs → Calls Tryz.prog 11 #[.agg cs.toArray] W fun e w' => e = .returned (.tuple #[.string (prt t), .int .i64 0]) ∧ Below W.heap.size W w' := fun W S cs hb hs => by
      have := print_any t W S cs hs (HT.out W hb)
      rw [hm, if_pos rfl] at this
      exact this
    have CK : ∀ W (S : Nat → Prop) (cs : List Value), Below w.heap.size w W → SIn W S t cs → Calls Tryz.prog 12 #[.agg cs.toArray] W fun e w' => e = .returned (.tuple #[.string ((⟨#[123]⟩ : ByteArray) ++ s0 ++ ⟨#[125]⟩), .int .i64 0]) ∧ Below W.heap.size W w' := fun W S cs hb hs => by
      have := pack_any t W S cs hs (HT.out W hb)
      rw [hm, if_pos rfl, hpk] at this
      exact this
    have hrd := aUnpack_pack hm (b1 := []) (b2 := []) (by simp) (by simp) (by have := pack_length hm; simp; omega)
    rw [List.append_nil, List.nil_append] at hrd
    have CU := fun W (hb : Below w.heap.size w W) => Unpack_any ((⟨#[123]⟩ : ByteArray) ++ s0 ++ ⟨#[125]⟩) W (HT.out W hb)
    simp only [hsU, hrd] at CU
    replace CU := hid CU
    have hrp := aRead_print hm (b1 := []) (b2 := []) (by simp) (by simp) (by simp; omega)
    rw [List.append_nil, List.nil_append] at hrp
    have CR := fun W (hb : Below w.heap.size w W) => Read_any (prt t) W (HT.out W hb)
    simp only [show (prt t).data.toList = aPrint t by unfold prt; simp, hrp] at CR
    replace CR := hid CR
    have CRP : ∀ W (S : Nat → Prop) (cs : List Value), SIn W S t cs → Calls Tryz.prog 16 #[.agg cs.toArray] W fun e w' => e = .returned (.string (prt t)) ∧ Below W.heap.size W w' := fun W S cs hs => refPrint_any t W S cs hs hfl
    have CF := fun W (S : Nat → Prop) (cs : List Value) (hs : SIn W S t cs) => form_any t W S cs hs hf
    have CB := fun W (A : Option Addr) (c : Nat) (hr : Reads W W.heap.size 1 A (form t).length (Lib.byteCells (form t))) => refBase64_any A (form t).length c (form t) W hr (by omega)
    simp only [← hs0] at CB
    generalize prt t = sP at *
    replace CP := hid CP
    replace CK := hid CK
    replace CRP := hid CRP
    replace CF := hid CF
    replace CB := hid CB
    have hq1 : ¬ 9223372036854775807 < 1 + s0.size := by omega
    have hq2 : ¬ 9223372036854775807 < 1 + s0.size + 1 := by omega
    have hps' : ¬ (16384 : Int) < sP.size := by omega
    rw [hm] at C2
    generalize form t = F at *
    clear hm hs0 hlb hsU hpk hrd hple hfl hrp hs0l hps hf hn
    go_enter Tryz.func3, Tryz.ntmps3
    go_wp2_with fail
    generalize (w.alloc (.cells #[.bool l0, .bool h0, .slice B10 m10 j10, .slice B20 m20 j20, .slice B30 m30 j30] 25)) = P0 at *
    refine C1.out.mono ?_
    rintro e w1 ⟨b, rfl, hb⟩
    have HB_w1 := hid ((HB0.out).trans (hb.mono (HB0.out).size))
    replace HX0 := hid (HX0.out.old hb)
    replace HN0 := hid (HN0.out.old hb)
    clear hb
    cases b with
    | true =>
      go_wp2_with fail
      refine (CA.out _ HB_w1.out).mono ?_
      rintro e wA ⟨rfl, hbA⟩
      go_wp2_with fail
      go_ret
      exact ⟨rfl, (HB_w1.out).trans (hbA.mono (HB_w1.out).size)⟩
    | false =>
    obtain ⟨⟨x0_0, x0_1, x0_2, x0_3, x0_4⟩, x0_z⟩ := (HX0.out).all
    clear x0_z
    replace CP := hid (CP.out _ _ _ HB_w1.out HN0.out)
    go_wp2_with fail
    clear x0_0 x0_1 x0_2 x0_3 x0_4
    refine CP.out.mono ?_
    rintro e w2 ⟨rfl, hb⟩
    have HB_w2 := hid ((HB_w1.out).trans (hb.mono (HB_w1.out).size))
    replace HX0 := hid (HX0.out.old hb)
    replace HN0 := hid (HN0.out.old hb)
    clear hb
    obtain ⟨⟨x0_0, x0_1, x0_2, x0_3, x0_4⟩, x0_z⟩ := (HX0.out).all
    clear x0_z
    replace CK := hid (CK.out _ _ _ HB_w2.out HN0.out)
    go_wp2_with fail
    clear x0_0 x0_1 x0_2 x0_3 x0_4
    refine CK.out.mono ?_
    rintro e w3 ⟨rfl, hb⟩
    have HB_w3 := hid ((HB_w2.out).trans (hb.mono (HB_w2.out).size))
    replace HX0 := hid (HX0.out.old hb)
    replace HN0 := hid (HN0.out.old hb)
    clear hb
    obtain ⟨⟨x0_0, x0_1, x0_2, x0_3, x0_4⟩, x0_z⟩ := (HX0.out).all
    clear x0_z
    replace C2 := hid (C2.out _ _ _ HN0.out)
    go_wp2_with fail
    clear x0_0 x0_1 x0_2 x0_3 x0_4
    refine C2.out.mono ?_
    rintro e w4 ⟨rfl, hb⟩
    have HB_w4 := hid ((HB_w3.out).trans (hb.mono (HB_w3.out).size))
    replace HX0 := hid (HX0.out.old hb)
    replace HN0 := hid (HN0.out.old hb)
    clear hb
    replace CR := hid (CR.out _ HB_w4.out)
    go_wp2_with fail
    refine CR.out.mono ?_
    rintro e w5 ⟨v0, v1, v2, v3, v4, rfl, hin, hb5⟩
    obtain ⟨l5, h5, hi5, da5, ks5, B15, m15, j15, B25, m25, j25, B35, m35, j35, eZ, eE⟩ := hin.form_
    injection eE with eE0 eE; injection eE with eE1 eE; injection eE with eE2 eE; injection eE with eE3 eE; injection eE with eE4 eE
    subst eE0 eE1 eE2 eE3 eE4
    clear eE eZ
    have X0 : Box (w5.alloc (.cells #[.bool false, .bool false, .slice none 0 0, .slice none 0 0, .slice none 0 0] 25)) w5.heap.size (.bool false) (.bool false) (.slice none 0 0) (.slice none 0 0) (.slice none 0 0) := heap_alloc_new w5 _
    obtain ⟨⟨d0, d1, d2, d3, d4⟩, dz⟩ := (X0).all
    have dz0 := dz 0
    have dz1 := dz 1
    have dz2 := dz 2
    have dz3 := dz 3
    have dz4 := dz 4
    clear dz
    have hbx := below_new w5 (.cells #[.bool l5, .bool h5, .slice B15 m15 j15, .slice B25 m25 j25, .slice B35 m35 j35] 25)
    have hst5 := hb5.trans (hbx.mono hb5.size)
    have HB5 := hid ((HB_w4.out).trans (hst5.mono (HB_w4.out).size))
    have HX5 := hid (show Box (w5.alloc (.cells #[.bool l5, .bool h5, .slice B15 m15 j15, .slice B25 m25 j25, .slice B35 m35 j35] 25)) w5.heap.size (.bool l5) (.bool h5) (.slice B15 m15 j15) (.slice B25 m25 j25) (.slice B35 m35 j35) from heap_alloc_new w5 _)
    have HN5 := hid (hin.old hbx)
    clear X0 hin hb5 hbx
    replace HX0 := hid (HX0.out.old hst5)
    replace HN0 := hid (HN0.out.old hst5)
    generalize hP5 : (w5.alloc (.cells #[.bool l5, .bool h5, .slice B15 m15 j15, .slice B25 m25 j25, .slice B35 m35 j35] 25)) = P5 at HB5 HX0 HN0 HX5 HN5
    replace CU := hid (CU.out _ HB5.out)
    subst hP5
    go_wp2_with fail
    generalize (w5.alloc (.cells #[.bool l5, .bool h5, .slice B15 m15 j15, .slice B25 m25 j25, .slice B35 m35 j35] 25)) = P5 at *
    clear d0 d1 d2 d3 d4 dz0 dz1 dz2 dz3 dz4 hst5 
    refine CU.out.mono ?_
    rintro e w6 ⟨v0, v1, v2, v3, v4, rfl, hin, hb6⟩
    obtain ⟨l6, h6, hi6, da6, ks6, B16, m16, j16, B26, m26, j26, B36, m36, j36, eZ, eE⟩ := hin.form_
    injection eE with eE0 eE; injection eE with eE1 eE; injection eE with eE2 eE; injection eE with eE3 eE; injection eE with eE4 eE
    subst eE0 eE1 eE2 eE3 eE4
    clear eE eZ
    have X0 : Box (w6.alloc (.cells #[.bool false, .bool false, .slice none 0 0, .slice none 0 0, .slice none 0 0] 25)) w6.heap.size (.bool false) (.bool false) (.slice none 0 0) (.slice none 0 0) (.slice none 0 0) := heap_alloc_new w6 _
    obtain ⟨⟨d0, d1, d2, d3, d4⟩, dz⟩ := (X0).all
    have dz0 := dz 0
    have dz1 := dz 1
    have dz2 := dz 2
    have dz3 := dz 3
    have dz4 := dz 4
    clear dz
    have hbx := below_new w6 (.cells #[.bool l6, .bool h6, .slice B16 m16 j16, .slice B26 m26 j26, .slice B36 m36 j36] 25)
    have hst6 := hb6.trans (hbx.mono hb6.size)
    have HB6 := hid ((HB5.out).trans (hst6.mono (HB5.out).size))
    have HX6 := hid (show Box (w6.alloc (.cells #[.bool l6, .bool h6, .slice B16 m16 j16, .slice B26 m26 j26, .slice B36 m36 j36] 25)) w6.heap.size (.bool l6) (.bool h6) (.slice B16 m16 j16) (.slice B26 m26 j26) (.slice B36 m36 j36) from heap_alloc_new w6 _)
    have HN6 := hid (hin.old hbx)
    clear X0 hin hb6 hbx
    replace HX0 := hid (HX0.out.old hst6)
    replace HN0 := hid (HN0.out.old hst6)
    replace HX5 := hid (HX5.out.old hst6)
    replace HN5 := hid (HN5.out.old hst6)
    obtain ⟨⟨x0_0, x0_1, x0_2, x0_3, x0_4⟩, x0_z⟩ := (HX0.out).all
    clear x0_z
    generalize hP6 : (w6.alloc (.cells #[.bool l6, .bool h6, .slice B16 m16 j16, .slice B26 m26 j26, .slice B36 m36 j36] 25)) = P6 at HB6 HX0 HN0 HX5 HN5 HX6 HN6
    replace CRP := hid (CRP.out _ _ _ HN0.out)
    subst hP6
    go_wp2_with fail
    generalize (w6.alloc (.cells #[.bool l6, .bool h6, .slice B16 m16 j16, .slice B26 m26 j26, .slice B36 m36 j36] 25)) = P6 at *
    clear d0 d1 d2 d3 d4 dz0 dz1 dz2 dz3 dz4 hst6 x0_0 x0_1 x0_2 x0_3 x0_4
    refine CRP.out.mono ?_
    rintro e w7 ⟨rfl, hb⟩
    have HB_w7 := hid ((HB6.out).trans (hb.mono (HB6.out).size))
    replace HX0 := hid (HX0.out.old hb)
    replace HN0 := hid (HN0.out.old hb)
    replace HX5 := hid (HX5.out.old hb)
    replace HN5 := hid (HN5.out.old hb)
    replace HX6 := hid (HX6.out.old hb)
    replace HN6 := hid (HN6.out.old hb)
    clear hb
    obtain ⟨⟨x0_0, x0_1, x0_2, x0_3, x0_4⟩, x0_z⟩ := (HX0.out).all
    clear x0_z
    replace CF := hid (CF.out _ _ _ HN0.out)
    go_wp2_with fail
    clear x0_0 x0_1 x0_2 x0_3 x0_4
    refine CF.out.mono ?_
    rintro e w8 ⟨AF, cF, rfl, hcF, hrF, hb⟩
    have HB_w8 := hid ((HB_w7.out).trans (hb.mono (HB_w7.out).size))
    replace HX0 := hid (HX0.out.old hb)
    replace HN0 := hid (HN0.out.old hb)
    replace HX5 := hid (HX5.out.old hb)
    replace HN5 := hid (HN5.out.old hb)
    replace HX6 := hid (HX6.out.old hb)
    replace HN6 := hid (HN6.out.old hb)
    clear hb
    replace CB := hid (CB.out _ AF cF hrF)
    clear hcF hrF
    go_wp2_with fail
    refine CB.out.mono ?_
    rintro e w9 ⟨rfl, hb⟩
    have HB_w9 := hid ((HB_w8.out).trans (hb.mono (HB_w8.out).size))
    replace HX0 := hid (HX0.out.old hb)
    replace HN0 := hid (HN0.out.old hb)
    replace HX5 := hid (HX5.out.old hb)
    replace HN5 := hid (HN5.out.old hb)
    replace HX6 := hid (HX6.out.old hb)
    replace HN6 := hid (HN6.out.old hb)
    clear hb
    obtain ⟨⟨x0_0, x0_1, x0_2, x0_3, x0_4⟩, x0_z⟩ := (HX0.out).all
    clear x0_z
    obtain ⟨⟨x5_0, x5_1, x5_2, x5_3, x5_4⟩, x5_z⟩ := (HX5.out).all
    clear x5_z
    have C5 := hid (refSame_any t t _ _ _ _ _ HN5.out HN0.out)
    rw [show same t t = true from same_refl _] at C5
    go_wp2_with fail
    clear x0_0 x0_1 x0_2 x0_3 x0_4 x5_0 x5_1 x5_2 x5_3 x5_4
    refine C5.out.mono ?_
    rintro e w10 ⟨rfl, hb⟩
    have HB_w10 := hid ((HB_w9.out).trans (hb.mono (HB_w9.out).size))
    replace HX0 := hid (HX0.out.old hb)
    replace HN0 := hid (HN0.out.old hb)
    replace HX5 := hid (HX5.out.old hb)
    replace HN5 := hid (HN5.out.old hb)
    replace HX6 := hid (HX6.out.old hb)
    replace HN6 := hid (HN6.out.old hb)
    clear hb
    obtain ⟨⟨x0_0, x0_1, x0_2, x0_3, x0_4⟩, x0_z⟩ := (HX0.out).all
    clear x0_z
    obtain ⟨⟨x6_0, x6_1, x6_2, x6_3, x6_4⟩, x6_z⟩ := (HX6.out).all
    clear x6_z
    have C6 := hid (refSame_any t t _ _ _ _ _ HN6.out HN0.out)
    rw [show same t t = true from same_refl _] at C6
    go_wp2_with fail
    clear x0_0 x0_1 x0_2 x0_3 x0_4 x6_0 x6_1 x6_2 x6_3 x6_4
    refine C6.out.mono ?_
    rintro e w11 ⟨rfl, hb⟩
    have HB_w11 := hid ((HB_w10.out).trans (hb.mono (HB_w10.out).size))
    replace HX0 := hid (HX0.out.old hb)
    replace HN0 := hid (HN0.out.old hb)
    replace HX5 := hid (HX5.out.old hb)
    replace HN5 := hid (HN5.out.old hb)
    replace HX6 := hid (HX6.out.old hb)
    replace HN6 := hid (HN6.out.old hb)
    clear hb
    go_wp2_with fail
    refine (CA.out _ HB_w11.out).mono ?_
    rintro e wA ⟨rfl, hbA⟩
    go_wp2_with fail
    go_ret
    exact ⟨rfl, (HB_w11.out).trans (hbA.mono (HB_w11.out).size)⟩
end Go.Proofs.YtcojkmcnigppbaaGreatDoor
