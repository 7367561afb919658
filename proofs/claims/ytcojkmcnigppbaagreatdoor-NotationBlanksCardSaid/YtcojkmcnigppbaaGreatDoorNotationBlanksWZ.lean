/-
  The walk of the law NotationBlanks. Conditions: the library's table of powers of ten holds what its text lays.
-/
import Derived.Test.YtcojkmcnigppbaaGreatDoorM5
import Derived.Test.YtcojkmcnigppbaaGreatDoorNpPackZ
import Derived.Deep.RegionHeld3
set_option linter.unusedVariables false
set_option linter.unusedSimpArgs false
open Go.Lib (hid)
open Go.Proofs.YtcojkmcnigppbaaGreatDoor (zA zB zC zD zE zF)
set_option maxRecDepth 100000
namespace Go.Proofs.YtcojkmcnigppbaaGreatDoor
open Go Go.Proofs Go.RowKit Sx Oct Nt Np
def tabL : List UInt8 := [32, 9, 10, 11, 12, 13]
def bl (x : UInt8) : UInt8 := tabL.getD (x.toNat % 6) 0
theorem bl_blank (x : UInt8) : isBlank (bl x) = true := by
  have h : ∀ n : Nat, n < 6 → isBlank (tabL.getD n 0) = true := by decide
  exact h _ (Nat.mod_lt _ (by omega))
theorem bls_blank (l : List UInt8) : ∀ x ∈ l.map bl, isBlank x = true := by
  intro x hx
  obtain ⟨y, _, rfl⟩ := List.mem_map.1 hx
  exact bl_blank y
theorem bl_take (l : List UInt8) (k : Nat) (x : UInt8) (h : l[k]? = some x) : (l.take (k + 1)).map bl = (l.take k).map bl ++ [bl x] := by
  rw [take_snoc l k x h, List.map_append]
  rfl
def tabC : Array Value := #[.int .u8 32, .int .u8 9, .int .u8 10, .int .u8 11, .int .u8 12, .int .u8 13]
theorem tab_at (x : UInt8) : tabC[x.toNat % 6]? = some (.int .u8 (bl x).toNat) := by
  have h : ∀ n : Nat, n < 6 → tabC[n]? = some (.int .u8 (tabL.getD n 0).toNat) := by
    intro n hn
    have : n = 0 ∨ n = 1 ∨ n = 2 ∨ n = 3 ∨ n = 4 ∨ n = 5 := by omega
    rcases this with rfl | rfl | rfl | rfl | rfl | rfl <;> rfl
  exact h _ (Nat.mod_lt _ (by omega))
theorem RIn.of_own_at {w : World} {base : Nat} {e : TypeId} {size n : Nat} {v : Value} {xs : List Value} (h : w.ownsRow base e size v n xs) :
    ∃ A c, v = .slice A n c ∧ n ≤ c ∧ RIn w (fun b => v.ownBlock = some b) size A n xs := by
  rcases h.2 with ⟨h1, h2⟩ | ⟨g, cap, cur, hv, hb, hh, hc, _⟩
  · subst h2
    exact ⟨none, 0, h1, Nat.le_refl _, h.1, fun h => absurd h (by omega)⟩
  · subst hv
    exact ⟨_, _, rfl, hc, h.1, fun _ => ⟨_, rfl, rfl, h.cells (g := g) rfl⟩⟩
theorem owns_none {w : World} {g : Nat} (h : w.heap[g]? = some (.cells #[] 5 (0, 0))) : w.ownsRow g 5 1 (.slice (some ⟨g, 0, none⟩) 0 0) 0 [] :=
  ⟨rfl, .inr ⟨_, 0, #[], rfl, Nat.le_refl _, h, Nat.le_refl _, by unfold maxLen; omega, rfl, rfl⟩⟩
set_option maxHeartbeats 16000000 in
theorem nblanks3_walk (t : SX) (w : World) (S Sf Sb : Nat → Prop) (cs : List Value) (hs : SIn w S t cs) (ht : Tab w) (AF : Option Addr) (nf cf : Nat) (lf : List UInt8) (hrf : RIn w Sf 1 AF nf (Lib.byteCells lf))
    (AB : Option Addr) (nb cb : Nat) (lb : List UInt8) (hrb : RIn w Sb 1 AB nb (Lib.byteCells lb)) :
    Calls Tryz.prog 7 #[.agg cs.toArray, .slice AF nf cf, .slice AB nb cb] w fun e w' => e = .returned (.bool true) ∧ Below w.heap.size w w' := by
  obtain ⟨l0, h0, hi0, da0, ks0, B10, m10, j10, B20, m20, j20, B30, m30, j30, eT, rfl⟩ := hs.form_
  have hb0 := below_new w (.cells #[.bool l0, .bool h0, .slice B10 m10 j10, .slice B20 m20 j20, .slice B30 m30 j30] 25)
  have HB0 := hid hb0
  have HX0 := hid (show Box (w.alloc (.cells #[.bool l0, .bool h0, .slice B10 m10 j10, .slice B20 m20 j20, .slice B30 m30 j30] 25)) w.heap.size (.bool l0) (.bool h0) (.slice B10 m10 j10) (.slice B20 m20 j20) (.slice B30 m30 j30) from heap_alloc_new w _)
  have HN0 := hid (hs.old hb0)
  have HT := hid (fun W hb => ht.old (w' := W) hb)
  have CA := hid (fun W hb => awake3_any W (HT.out W hb))
  have C1 := hid (great_any t _ S _ 0 (hs.old hb0) (by omega) (by omega))
  clear hs ht hb0 eT
  have hlf : lf.length = nf := by have := hrf.1; simpa [Lib.byteCells_length] using this
  have hlb : lb.length = nb := by have := hrb.1; simpa [Lib.byteCells_length] using this
  by_cases hlen : ¬ (nf ≤ 100 ∧ nb ≤ 100)
  ·
    go_enter Tryz.func7, Tryz.ntmps7
    go_wp2_with fail
    generalize (w.alloc (.cells #[.bool l0, .bool h0, .slice B10 m10 j10, .slice B20 m20 j20, .slice B30 m30 j30] 25)) = P0 at *
    refine C1.out.mono ?_
    rintro e w1 ⟨b, rfl, hb⟩
    have HB_w1 := hid ((HB0.out).trans (hb.mono (HB0.out).size))
    replace HX0 := hid (HX0.out.old hb)
    replace HN0 := hid (HN0.out.old hb)
    clear hb
    cases b with
    | true =>
      go_wp2_with fail
      refine (CA.out _ HB_w1.out).mono ?_
      rintro e wA ⟨rfl, hbA⟩
      go_wp2_with fail
      go_ret
      exact ⟨rfl, (HB_w1.out).trans (hbA.mono (HB_w1.out).size)⟩
    | false =>
    by_cases h1 : nf ≤ 100
    · have h1' : ¬ (100 : Int) < nf := by omega
      have h2' : (100 : Int) < nb := by omega
      go_wp2_with fail
      refine (CA.out _ HB_w1.out).mono ?_
      rintro e wA ⟨rfl, hbA⟩
      go_wp2_with fail
      go_ret
      exact ⟨rfl, (HB_w1.out).trans (hbA.mono (HB_w1.out).size)⟩
    · have h1' : (100 : Int) < nf := by omega
      go_wp2_with fail
      refine (CA.out _ HB_w1.out).mono ?_
      rintro e wA ⟨rfl, hbA⟩
      go_wp2_with fail
      go_ret
      exact ⟨rfl, (HB_w1.out).trans (hbA.mono (HB_w1.out).size)⟩
  have hlen : nf ≤ 100 ∧ nb ≤ 100 := Classical.not_not.1 hlen
  have h1' : ¬ (100 : Int) < nf := by omega
  have h2' : ¬ (100 : Int) < nb := by omega
  cases hm : may t with
  | false =>
    have CP : Hid (∀ W (S : Nat → Prop) (cs : List Value), Below w.heap.size w W → SIn W S t cs → Calls Tryz.prog 11 #[.agg cs.toArray] W fun e w' => e = .returned (.tuple #[.string ⟨#[]⟩, .int .i64 4]) ∧ Below W.heap.size W w') := hid fun W S cs hb hs => by
      have := print_any t W S cs hs (HT.out W hb)
      rw [hm] at this
      exact this
    have CK : Hid (∀ W (S : Nat → Prop) (cs : List Value), Below w.heap.size w W → SIn W S t cs → Calls Tryz.prog 12 #[.agg cs.toArray] W fun e w' => e = .returned (.tuple #[.string ⟨#[]⟩, .int .i64 4]) ∧ Below W.heap.size W w') := hid fun W S cs hb hs => by
      have := pack_any t W S cs hs (HT.out W hb)
      rw [hm] at this
      exact this
    clear hm hrf hrb hlf hlb hlen
    go_enter Tryz.func7, Tryz.ntmps7
    go_wp2_with fail
    generalize (w.alloc (.cells #[.bool l0, .bool h0, .slice B10 m10 j10, .slice B20 m20 j20, .slice B30 m30 j30] 25)) = P0 at *
    refine C1.out.mono ?_
    rintro e w1 ⟨b, rfl, hb⟩
    have HB_w1 := hid ((HB0.out).trans (hb.mono (HB0.out).size))
    replace HX0 := hid (HX0.out.old hb)
    replace HN0 := hid (HN0.out.old hb)
    clear hb
    cases b with
    | true =>
      go_wp2_with fail
      refine (CA.out _ HB_w1.out).mono ?_
      rintro e wA ⟨rfl, hbA⟩
      go_wp2_with fail
      go_ret
      exact ⟨rfl, (HB_w1.out).trans (hbA.mono (HB_w1.out).size)⟩
    | false =>
    obtain ⟨⟨x0_0, x0_1, x0_2, x0_3, x0_4⟩, x0_z⟩ := (HX0.out).all
    clear x0_z
    replace CP := hid (CP.out _ _ _ HB_w1.out HN0.out)
    go_wp2_with fail
    clear x0_0 x0_1 x0_2 x0_3 x0_4
    refine CP.out.mono ?_
    rintro e w2 ⟨rfl, hb⟩
    have HB_w2 := hid ((HB_w1.out).trans (hb.mono (HB_w1.out).size))
    replace HX0 := hid (HX0.out.old hb)
    replace HN0 := hid (HN0.out.old hb)
    clear hb
    obtain ⟨⟨x0_0, x0_1, x0_2, x0_3, x0_4⟩, x0_z⟩ := (HX0.out).all
    clear x0_z
    replace CK := hid (CK.out _ _ _ HB_w2.out HN0.out)
    go_wp2_with fail
    clear x0_0 x0_1 x0_2 x0_3 x0_4
    refine CK.out.mono ?_
    rintro e w3 ⟨rfl, hb⟩
    have HB_w3 := hid ((HB_w2.out).trans (hb.mono (HB_w2.out).size))
    replace HX0 := hid (HX0.out.old hb)
    replace HN0 := hid (HN0.out.old hb)
    clear hb
    go_wp2_with fail
    refine (CA.out _ HB_w3.out).mono ?_
    rintro e wA ⟨rfl, hbA⟩
    go_wp2_with fail
    go_ret
    exact ⟨rfl, (HB_w3.out).trans (hbA.mono (HB_w3.out).size)⟩
  | true =>
    have hfl : (form t).length ≤ 4096 := (may_ok hm).2.2.2
    have hpk := pack_length hm
    have CP : ∀ W (S : Nat → Prop) (cs : List Value), Below w.heap.size w W → SIn W S t cs → Calls Tryz.prog 11 #[.agg cs.toArray] W fun e w' => e = .returned (.tuple #[.string (prt t), .int .i64 0]) ∧ Below W.heap.size W w' := fun W S cs hb hs => by
      have := print_any t W S cs hs (HT.out W hb)
      rw [hm, if_pos rfl] at this
      exact this
    have CK : ∀ W (S : Nat → Prop) (cs : List Value), Below w.heap.size w W → SIn W S t cs → Calls Tryz.prog 12 #[.agg cs.toArray] W fun e w' => e = .returned (.tuple #[.string (pck t), .int .i64 0]) ∧ Below W.heap.size W w' := fun W S cs hb hs => by
      have := pack_any t W S cs hs (HT.out W hb)
      rw [hm, if_pos rfl] at this
      exact this
    have hpsL : (prt t).data.toList = aPrint t := by unfold prt; simp
    have hpkL : (pck t).data.toList = aPack t := by unfold pck; simp
    have hpsz : (prt t).size = (aPrint t).length := by unfold prt; show (aPrint t).toArray.size = _; simp
    have hpkz : (pck t).size = (aPack t).length := by unfold pck; show (aPack t).toArray.size = _; simp
    by_cases h16 : 16000 < (prt t).size
    · have h16' : (16000 : Int) < (prt t).size := by omega
      generalize prt t = sP at *
      generalize pck t = sK at *
      replace CP := hid CP
      replace CK := hid CK
      clear hm hrf hrb hlf hlb hlen hfl hpk hpsL hpkL hpsz hpkz h16
      go_enter Tryz.func7, Tryz.ntmps7
      go_wp2_with fail
      generalize (w.alloc (.cells #[.bool l0, .bool h0, .slice B10 m10 j10, .slice B20 m20 j20, .slice B30 m30 j30] 25)) = P0 at *
      refine C1.out.mono ?_
      rintro e w1 ⟨b, rfl, hb⟩
      have HB_w1 := hid ((HB0.out).trans (hb.mono (HB0.out).size))
      replace HX0 := hid (HX0.out.old hb)
      replace HN0 := hid (HN0.out.old hb)
      clear hb
      cases b with
      | true =>
        go_wp2_with fail
        refine (CA.out _ HB_w1.out).mono ?_
        rintro e wA ⟨rfl, hbA⟩
        go_wp2_with fail
        go_ret
        exact ⟨rfl, (HB_w1.out).trans (hbA.mono (HB_w1.out).size)⟩
      | false =>
      obtain ⟨⟨x0_0, x0_1, x0_2, x0_3, x0_4⟩, x0_z⟩ := (HX0.out).all
      clear x0_z
      replace CP := hid (CP.out _ _ _ HB_w1.out HN0.out)
      go_wp2_with fail
      clear x0_0 x0_1 x0_2 x0_3 x0_4
      refine CP.out.mono ?_
      rintro e w2 ⟨rfl, hb⟩
      have HB_w2 := hid ((HB_w1.out).trans (hb.mono (HB_w1.out).size))
      replace HX0 := hid (HX0.out.old hb)
      replace HN0 := hid (HN0.out.old hb)
      clear hb
      obtain ⟨⟨x0_0, x0_1, x0_2, x0_3, x0_4⟩, x0_z⟩ := (HX0.out).all
      clear x0_z
      replace CK := hid (CK.out _ _ _ HB_w2.out HN0.out)
      go_wp2_with fail
      clear x0_0 x0_1 x0_2 x0_3 x0_4
      refine CK.out.mono ?_
      rintro e w3 ⟨rfl, hb⟩
      have HB_w3 := hid ((HB_w2.out).trans (hb.mono (HB_w2.out).size))
      replace HX0 := hid (HX0.out.old hb)
      replace HN0 := hid (HN0.out.old hb)
      clear hb
      go_wp2_with fail
      refine (CA.out _ HB_w3.out).mono ?_
      rintro e wA ⟨rfl, hbA⟩
      go_wp2_with fail
      go_ret
      exact ⟨rfl, (HB_w3.out).trans (hbA.mono (HB_w3.out).size)⟩
    · have h16' : ¬ (16000 : Int) < (prt t).size := by omega
      obtain ⟨la, hla⟩ : ∃ la, la = lf.map bl := ⟨_, rfl⟩
      obtain ⟨lc, hlc⟩ : ∃ lc, lc = lb.map bl := ⟨_, rfl⟩
      have hlaL : la.length = nf := by rw [hla, List.length_map, hlf]
      have hlcL : lc.length = nb := by rw [hlc, List.length_map, hlb]
      have hrp := aRead_print hm (b1 := la) (b2 := lc) (by rw [hla]; exact bls_blank lf) (by rw [hlc]; exact bls_blank lb) (by simp only [List.length_append]; omega)
      have hru := aUnpack_pack hm (b1 := la) (b2 := lc) (by rw [hla]; exact bls_blank lf) (by rw [hlc]; exact bls_blank lb) (by simp only [List.length_append]; omega)
      have CR := fun W (hb : Below w.heap.size w W) => Read_any ((⟨la.toArray⟩ : ByteArray) ++ prt t ++ ⟨lc.toArray⟩) W (HT.out W hb)
      simp only [show ((⟨la.toArray⟩ : ByteArray) ++ prt t ++ ⟨lc.toArray⟩).data.toList = la ++ (aPrint t ++ lc) by simp [hpsL], hrp] at CR
      have CU := fun W (hb : Below w.heap.size w W) => Unpack_any ((⟨la.toArray⟩ : ByteArray) ++ pck t ++ ⟨lc.toArray⟩) W (HT.out W hb)
      simp only [show ((⟨la.toArray⟩ : ByteArray) ++ pck t ++ ⟨lc.toArray⟩).data.toList = la ++ (aPack t ++ lc) by simp [hpkL], hru] at CU
      have hkz : (pck t).size ≤ 5470 := by omega
      clear hpsL hpkL hpsz hpkz hrp hru hpk hfl
      generalize prt t = sP at *
      generalize pck t = sK at *
      replace CP := hid CP
      replace CK := hid CK
      replace CR := hid CR
      replace CU := hid CU
      have hq1 : ¬ 9223372036854775807 < la.length + sP.size := by omega
      have hq2 : ¬ 9223372036854775807 < la.length + sP.size + lc.length := by omega
      have hq3 : ¬ 9223372036854775807 < la.length + sK.size := by omega
      have hq4 : ¬ 9223372036854775807 < la.length + sK.size + lc.length := by omega
      have HLA := hid hla
      have HLC := hid hlc
      have HLL := hid (And.intro hlaL hlcL)
      have HLF := hid (And.intro hlf hlb)
      have hnfi : (0 : Int) ≤ nf := by omega
      have hnbi : (0 : Int) ≤ nb := by omega
      have HROW : Hid (∀ (A : Option Addr) (n : Nat) (l : List UInt8) (S : Nat → Prop), RIn w S 1 A n (Lib.byteCells l) → ∀ j, j < n → ∃ ad x, A = some ad ∧ l[j]? = some x ∧ ∀ V, Below w.heap.size w V → V.cell? (ad.add j) = some (.int .u8 x.toNat)) := hid fun A n l S hr j hj => by
        have hr2 := hr.reads (by omega)
        have hll : l.length = n := by have := hr.1; simpa [Lib.byteCells_length] using this
        obtain ⟨ad, u, rfl, hab, hu, hc⟩ := hr2.at_ hj
        have hkl : j < l.length := by omega
        refine ⟨ad, l[j], rfl, List.getElem?_eq_getElem hkl, fun V hb => ?_⟩
        have hu' : u = .int .u8 l[j].toNat := by
          simp [Lib.byteCells, List.getElem?_map, List.getElem?_eq_getElem hkl] at hu
          exact hu.symm
        rw [hb.cell (by rw [block_of_add]; exact hab), hc, hu']
      have HFR := hid (HROW.out AF nf lf Sf hrf)
      have HBK := hid (HROW.out AB nb lb Sb hrb)
      obtain ⟨i0, hi, hz0, hz1, hz2⟩ := info_parts infoByte
      clear hm hrf hrb hlf hlb hla hlc hlaL hlcL h16 hkz HROW
      go_enter Tryz.func7, Tryz.ntmps7
      go_wp2_with fail
      generalize (w.alloc (.cells #[.bool l0, .bool h0, .slice B10 m10 j10, .slice B20 m20 j20, .slice B30 m30 j30] 25)) = P0 at *
      refine C1.out.mono ?_
      rintro e w1 ⟨b, rfl, hb⟩
      have HB_w1 := hid ((HB0.out).trans (hb.mono (HB0.out).size))
      replace HX0 := hid (HX0.out.old hb)
      replace HN0 := hid (HN0.out.old hb)
      clear hb
      cases b with
      | true =>
        go_wp2_with fail
        refine (CA.out _ HB_w1.out).mono ?_
        rintro e wA ⟨rfl, hbA⟩
        go_wp2_with fail
        go_ret
        exact ⟨rfl, (HB_w1.out).trans (hbA.mono (HB_w1.out).size)⟩
      | false =>
      obtain ⟨⟨x0_0, x0_1, x0_2, x0_3, x0_4⟩, x0_z⟩ := (HX0.out).all
      clear x0_z
      replace CP := hid (CP.out _ _ _ HB_w1.out HN0.out)
      go_wp2_with fail
      clear x0_0 x0_1 x0_2 x0_3 x0_4
      refine CP.out.mono ?_
      rintro e w2 ⟨rfl, hb⟩
      have HB_w2 := hid ((HB_w1.out).trans (hb.mono (HB_w1.out).size))
      replace HX0 := hid (HX0.out.old hb)
      replace HN0 := hid (HN0.out.old hb)
      clear hb
      obtain ⟨⟨x0_0, x0_1, x0_2, x0_3, x0_4⟩, x0_z⟩ := (HX0.out).all
      clear x0_z
      replace CK := hid (CK.out _ _ _ HB_w2.out HN0.out)
      go_wp2_with fail
      clear x0_0 x0_1 x0_2 x0_3 x0_4
      refine CK.out.mono ?_
      rintro e w3 ⟨rfl, hb⟩
      have HB_w3 := hid ((HB_w2.out).trans (hb.mono (HB_w2.out).size))
      replace HX0 := hid (HX0.out.old hb)
      replace HN0 := hid (HN0.out.old hb)
      clear hb
      have hz_a : (w3.alloc (.cells #[] 5)).heap.size = w3.heap.size + 1 := by simp
      have hz_b : ((w3.alloc (.cells #[] 5)).alloc (.cells #[] 5)).heap.size = w3.heap.size + 2 := by simp
      have hz_c : (((w3.alloc (.cells #[] 5)).alloc (.cells #[] 5)).alloc (.cells tabC 5)).heap.size = w3.heap.size + 3 := by simp
      have k1 := below_new w3 (.cells #[] 5)
      have k2 := below_new (w3.alloc (.cells #[] 5)) (.cells #[] 5)
      have k3 := below_new ((w3.alloc (.cells #[] 5)).alloc (.cells #[] 5)) (.cells tabC 5)
      have hE1 := hid (below_at k3 (below_at k2 (heap_alloc_new w3 (.cells #[] 5))))
      have hE2 := below_at k3 (heap_alloc_new (w3.alloc (.cells #[] 5)) (.cells #[] 5))
      have hE3 := heap_alloc_new ((w3.alloc (.cells #[] 5)).alloc (.cells #[] 5)) (.cells tabC 5)
      have hBW := (k1.trans (k2.mono k1.size)).trans (k3.mono (k1.trans (k2.mono k1.size)).size)
      rw [hz_a] at hE2
      rw [hz_b] at hE3
      clear k1 k2 k3
      replace hE2 := hid hE2
      replace hE3 := hid hE3
      go_wp2_with fail
      change Hid (_ = _) at hE3
      unfold tabC at hE1 hE2 hE3 hBW hz_c
      replace hE3 : Hid (_ = some (Obj.cells tabC 5)) := hE3
      generalize (((w3.alloc (.cells #[] 5)).alloc (.cells #[] 5)).alloc (.cells #[.int .u8 32, .int .u8 9, .int .u8 10, .int .u8 11, .int .u8 12, .int .u8 13] 5)) = W3 at *
      clear hz_a hz_b
      go_loopw [11, 14] (fun v i wr => ∃ j, j ≤ nf ∧ i = .int .i64 j ∧ wr.ownsRow w3.heap.size 5 1 v j (Lib.byteCells ((lf.take j).map bl)) ∧ (∀ g, v.ownBlock = some g → g = w3.heap.size ∨ w3.heap.size + 3 ≤ g) ∧ Hid (wr.heap[w3.heap.size + 1]? = some (Obj.cells #[] 5 (0, 0))) ∧ Hid (wr.heap[w3.heap.size + 2]? = some (Obj.cells tabC 5 (0, 0))) ∧ Below w3.heap.size w3 wr ∧ w3.heap.size + 3 ≤ wr.heap.size) (fun _ i _ => nf - (intOf i).toNat)
      case atStart => exact ⟨0, Nat.zero_le _, rfl, by rw [List.take_zero]; exact owns_none hE1.out, fun g hg => .inl (by simpa [Value.ownBlock] using hg.symm), hE2, hE3, hBW, by omega⟩
      case round =>
        obtain ⟨j, hj, rfl, hown, hvb, hG2, hG3, hBr, hzr⟩ := hrel
        clear hE1 hE2 hE3 hBW hz_c
        by_cases hlt : j < nf
        · obtain ⟨ad, x, rfl, hx, hc⟩ := HFR.out j hlt
          have hBw := HB_w3.out.trans (hBr.mono HB_w3.out.size)
          replace hc := hc _ hBw
          have HT1 := hid (bl_take _ j x hx)
          obtain ⟨q, hq⟩ : ∃ q, q = x.toNat % 6 := ⟨_, rfl⟩
          have hxl := x.toNat_lt
          have e2 : (x.toNat : Int).tmod 6 = (q : Int) := by rw [Int.tmod_eq_emod_of_nonneg (by omega)]; omega
          have hq6 : q < 6 := by omega
          have hq0 : (0 : Int) ≤ q := by omega
          have hq6' : (q : Int) < 6 := by omega
          have htb : World.cell? _ ⟨w3.heap.size + 2, q, none⟩ = some (.int .u8 (bl x).toNat) := (Lib.cell_of_heap hG3.out q).trans (by rw [hq]; exact tab_at x)
          have hyl := (bl x).toNat_lt
          generalize bl x = y at *
          have hlt' : (j : Int) < nf := by omega
          have hrd := reads_one wr y (0, 0)
          clear hx hq hBw
          go_wp2_with (at_builtin; refine wpList_append_any _ rfl (.tmp 71) (.tmp 80) 22 rfl w3.heap.size 5 i0 (.int .u8 0) 1 1 Tryz.underlying22 hi hz0 hz1 hz2 rfl (by decide) _ _ _ rfl (hown.alloc _) (wr.heap.size + 1) _ 1 1 (Lib.byteCells [y]) rfl hrd (Lib.byteCells_one _) (by unfold maxLen; omega) (by omega) (by simp; omega) ?_)
          intro v' w4 hown' hgrow hvb'
          have hb4 : Below w3.heap.size w3 w4 := (hBr.alloc (by omega) (.cells #[.int .u8 y.toNat] 5)).grown hgrow (by simp; omega) (fun k hk => by have := (hown.lt k hk).1; omega)
          have hzn : (wr.alloc (.cells #[.int .u8 y.toNat] 5)).heap.size = wr.heap.size + 1 := by simp
          have hz4 := hgrow.size
          (try rw [hzn] at hz4)
          (try rw [hzn] at hvb')
          have hbn := below_new wr (.cells #[.int .u8 y.toNat] 5)
          have hvb4 : ∀ g, v'.ownBlock = some g → g = w3.heap.size ∨ w3.heap.size + 3 ≤ g := fun g hg => by
            rcases hvb' with h | h
            · rw [h] at hg; exact hvb g hg
            · rw [h] at hg; injection hg with hg; omega
          have hfar : ∀ g, g < wr.heap.size → g ≠ w3.heap.size → g < w3.heap.size + 3 → w4.heap[g]? = wr.heap[g]? := fun g h1 h2 h3 => by
            rw [hgrow.block g (by rw [hzn]; omega) (fun e => by have := hvb g e.symm; omega)]
            exact hbn.block g h1
          have hG2' := hid ((hfar (w3.heap.size + 1) (by omega) (by omega) (by omega)).trans hG2.out)
          have hG3' := hid ((hfar (w3.heap.size + 2) (by omega) (by omega) (by omega)).trans hG3.out)
          clear hown hgrow hrd hvb hvb' hbn
          go_wp2_with fail
          exact ⟨⟨j + 1, by omega, by go_num, by rw [HT1.out, Lib.byteCells_append]; first | exact hown' | (rw [List.map_take]; exact hown'), hvb4, hG2', hG3', hb4, by omega⟩, by simp [intOf]; omega⟩
        · obtain rfl : j = nf := by omega
          have hTk : lf.take j = lf := List.take_of_length_le (by rw [HLF.out.1]; exact Nat.le_refl _)
          rw [hTk, ← HLA.out] at hown
          clear hTk
          obtain ⟨A1, c1, rfl, hc1, hri⟩ := RIn.of_own_at hown
          obtain ⟨K, hK⟩ : ∃ K, K = wr.heap.size := ⟨_, rfl⟩
          rw [← hK] at hzr
          have hR1 : Hid (RIn wr (fun b => b ≠ w3.heap.size + 1 ∧ b < K) 1 A1 j (Lib.byteCells la)) := hid ((hri.size_ (by omega)).more fun b hb => ⟨by have := hvb b hb.1; omega, by rw [hK]; exact hb.2⟩)
          replace hK := hid hK
          clear hown hri hvb hc1
          go_wp2_with fail
          go_loopw [12, 15] (fun v i wq => ∃ m, m ≤ nb ∧ i = .int .i64 m ∧ wq.ownsRow (w3.heap.size + 1) 5 1 v m (Lib.byteCells ((lb.take m).map bl)) ∧ (∀ g, v.ownBlock = some g → g = w3.heap.size + 1 ∨ K ≤ g) ∧ Hid (RIn wq (fun b => b ≠ w3.heap.size + 1 ∧ b < K) 1 A1 j (Lib.byteCells la)) ∧ Hid (wq.heap[w3.heap.size + 2]? = some (Obj.cells tabC 5 (0, 0))) ∧ Below w3.heap.size w3 wq ∧ K ≤ wq.heap.size) (fun _ i _ => nb - (intOf i).toNat)
          case atStart => exact ⟨0, Nat.zero_le _, rfl, by rw [List.take_zero]; exact owns_none hG2.out, fun g hg => .inl (by simpa [Value.ownBlock] using hg.symm), hR1, hG3, hBr, Nat.le_of_eq hK.out⟩
          case round =>
            obtain ⟨m, hm, rfl, hown, hvb, hR, hT3, hBq, hzq⟩ := hrel
            clear hR1 hG2 hG3 hBr
            by_cases hlt : m < nb
            · obtain ⟨ad, x, rfl, hx, hc⟩ := HBK.out m hlt
              have hBw := HB_w3.out.trans (hBq.mono HB_w3.out.size)
              replace hc := hc _ hBw
              have HT1 := hid (bl_take _ m x hx)
              obtain ⟨q, hq⟩ : ∃ q, q = x.toNat % 6 := ⟨_, rfl⟩
              have hxl := x.toNat_lt
              have e2 : (x.toNat : Int).tmod 6 = (q : Int) := by rw [Int.tmod_eq_emod_of_nonneg (by omega)]; omega
              have hq6 : q < 6 := by omega
              have hq0 : (0 : Int) ≤ q := by omega
              have hq6' : (q : Int) < 6 := by omega
              have htb : World.cell? _ ⟨w3.heap.size + 2, q, none⟩ = some (.int .u8 (bl x).toNat) := (Lib.cell_of_heap hT3.out q).trans (by rw [hq]; exact tab_at x)
              have hyl := (bl x).toNat_lt
              generalize bl x = y at *
              have hlt' : (m : Int) < nb := by omega
              have hrd := reads_one wr y (0, 0)
              clear hx hq hBw
              go_wp2_with (at_builtin; refine wpList_append_any _ rfl (.tmp 88) (.tmp 97) 22 rfl (w3.heap.size + 1) 5 i0 (.int .u8 0) 1 1 Tryz.underlying22 hi hz0 hz1 hz2 rfl (by decide) _ _ _ rfl (hown.alloc _) (wr.heap.size + 1) _ 1 1 (Lib.byteCells [y]) rfl hrd (Lib.byteCells_one _) (by unfold maxLen; omega) (by omega) (by simp; omega) ?_)
              intro v' w4 hown' hgrow hvb'
              have hb4 : Below w3.heap.size w3 w4 := (hBq.alloc (by omega) (.cells #[.int .u8 y.toNat] 5)).grown hgrow (by simp; omega) (fun k hk => by have := (hown.lt k hk).1; omega)
              have hzn : (wr.alloc (.cells #[.int .u8 y.toNat] 5)).heap.size = wr.heap.size + 1 := by simp
              have hz4 := hgrow.size
              (try rw [hzn] at hz4)
              (try rw [hzn] at hvb')
              have hbn := below_new wr (.cells #[.int .u8 y.toNat] 5)
              have hvb4 : ∀ g, v'.ownBlock = some g → g = (w3.heap.size + 1) ∨ K ≤ g := fun g hg => by
                rcases hvb' with h | h
                · rw [h] at hg; exact hvb g hg
                · rw [h] at hg; injection hg with hg; omega
              have hfar : ∀ g, g < wr.heap.size → g ≠ (w3.heap.size + 1) → g < K → w4.heap[g]? = wr.heap[g]? := fun g h1 h2 h3 => by
                rw [hgrow.block g (by rw [hzn]; omega) (fun e => by have := hvb g e.symm; omega)]
                exact hbn.block g h1
              have hT3' := hid ((hfar (w3.heap.size + 2) (by omega) (by omega) (by omega)).trans hT3.out)
              have hR' := hid (hR.out.keep (w' := w4) fun p hp => World.cell?_of_block (hfar p.block (by have := hp.2; omega) hp.1 hp.2))
              clear hown hgrow hrd hvb hvb' hbn
              go_wp2_with fail
              exact ⟨⟨m + 1, by omega, by go_num, by rw [HT1.out, Lib.byteCells_append]; first | exact hown' | (rw [List.map_take]; exact hown'), hvb4, hR', hT3', hb4, by omega⟩, by simp [intOf]; omega⟩
            · obtain rfl : m = nb := by omega
              have hTk : lb.take m = lb := List.take_of_length_le (by rw [HLF.out.2]; exact Nat.le_refl _)
              rw [hTk, ← HLC.out] at hown
              clear hTk
              obtain ⟨A2, c2, rfl, hc2⟩ := own_form_cap hown
              have hS1 := hR.out.reads (by omega)
              have hS2 := Reads.of_own hown
              have HR1 : Hid (∀ V, Below wr.heap.size wr V → Reads V V.heap.size 1 A1 j (Lib.byteCells la)) := hid fun V hb => (hS1.keep fun q hq => hb.cell hq).more hb.size
              have HR2 : Hid (∀ V, Below wr.heap.size wr V → Reads V V.heap.size 1 A2 m (Lib.byteCells lc)) := hid fun V hb => (hS2.keep fun q hq => hb.cell hq).more hb.size
              have HBq := hid (HB_w3.out.trans (hBq.mono HB_w3.out.size))
              replace HX0 := hid (HX0.out.old hBq)
              replace HN0 := hid (HN0.out.old hBq)
              clear hown hR hT3 hvb hS1 hS2 hBq HFR HBK
              go_wp2_with fail
              rw [run_back (HR1.out _ (Below.refl _ _))]
              simp only [Result.andThen]
              rw [Oper.upon_value]
              go_wp2_with fail
              rw [run_back (HR2.out _ (Below.refl _ _))]
              simp only [Result.andThen]
              rw [Oper.upon_value]
              go_wp2_with fail
              replace CR := hid (CR.out _ HBq.out)
              refine CR.out.mono ?_
              rintro e w5 ⟨v0, v1, v2, v3, v4, rfl, hin, hb5⟩
              obtain ⟨l5, h5, hi5, da5, ks5, B15, m15, j15, B25, m25, j25, B35, m35, j35, eZ, eE⟩ := hin.form_
              injection eE with eE0 eE; injection eE with eE1 eE; injection eE with eE2 eE; injection eE with eE3 eE; injection eE with eE4 eE
              subst eE0 eE1 eE2 eE3 eE4
              clear eE eZ
              have X0 : Box (w5.alloc (.cells #[.bool false, .bool false, .slice none 0 0, .slice none 0 0, .slice none 0 0] 25)) w5.heap.size (.bool false) (.bool false) (.slice none 0 0) (.slice none 0 0) (.slice none 0 0) := heap_alloc_new w5 _
              obtain ⟨⟨d0, d1, d2, d3, d4⟩, dz⟩ := (X0).all
              have dz0 := dz 0
              have dz1 := dz 1
              have dz2 := dz 2
              have dz3 := dz 3
              have dz4 := dz 4
              clear dz
              have hbx := below_new w5 (.cells #[.bool l5, .bool h5, .slice B15 m15 j15, .slice B25 m25 j25, .slice B35 m35 j35] 25)
              have hst5 := hb5.trans (hbx.mono hb5.size)
              have HB5 := hid ((HBq.out).trans (hst5.mono (HBq.out).size))
              have HX5 := hid (show Box (w5.alloc (.cells #[.bool l5, .bool h5, .slice B15 m15 j15, .slice B25 m25 j25, .slice B35 m35 j35] 25)) w5.heap.size (.bool l5) (.bool h5) (.slice B15 m15 j15) (.slice B25 m25 j25) (.slice B35 m35 j35) from heap_alloc_new w5 _)
              have HN5 := hid (hin.old hbx)
              clear X0 hin hb5 hbx
              replace HX0 := hid (HX0.out.old hst5)
              replace HN0 := hid (HN0.out.old hst5)
              generalize hP5 : (w5.alloc (.cells #[.bool l5, .bool h5, .slice B15 m15 j15, .slice B25 m25 j25, .slice B35 m35 j35] 25)) = P5 at HB5 HX0 HN0 HX5 HN5
              have HR1b := hid (HR1.out P5 (by rw [← hP5]; exact hst5))
              have HR2b := hid (HR2.out P5 (by rw [← hP5]; exact hst5))
              replace CU := hid (CU.out _ HB5.out)
              subst hP5
              go_wp2_with fail
              generalize (w5.alloc (.cells #[.bool l5, .bool h5, .slice B15 m15 j15, .slice B25 m25 j25, .slice B35 m35 j35] 25)) = P5 at *
              clear d0 d1 d2 d3 d4 dz0 dz1 dz2 dz3 dz4 hst5 
              rw [run_back HR1b.out]
              simp only [Result.andThen]
              rw [Oper.upon_value]
              go_wp2_with fail
              rw [run_back HR2b.out]
              simp only [Result.andThen]
              rw [Oper.upon_value]
              go_wp2_with fail
              refine CU.out.mono ?_
              rintro e w6 ⟨v0, v1, v2, v3, v4, rfl, hin, hb6⟩
              obtain ⟨l6, h6, hi6, da6, ks6, B16, m16, j16, B26, m26, j26, B36, m36, j36, eZ, eE⟩ := hin.form_
              injection eE with eE0 eE; injection eE with eE1 eE; injection eE with eE2 eE; injection eE with eE3 eE; injection eE with eE4 eE
              subst eE0 eE1 eE2 eE3 eE4
              clear eE eZ
              have X0 : Box (w6.alloc (.cells #[.bool false, .bool false, .slice none 0 0, .slice none 0 0, .slice none 0 0] 25)) w6.heap.size (.bool false) (.bool false) (.slice none 0 0) (.slice none 0 0) (.slice none 0 0) := heap_alloc_new w6 _
              obtain ⟨⟨d0, d1, d2, d3, d4⟩, dz⟩ := (X0).all
              have dz0 := dz 0
              have dz1 := dz 1
              have dz2 := dz 2
              have dz3 := dz 3
              have dz4 := dz 4
              clear dz
              have hbx := below_new w6 (.cells #[.bool l6, .bool h6, .slice B16 m16 j16, .slice B26 m26 j26, .slice B36 m36 j36] 25)
              have hst6 := hb6.trans (hbx.mono hb6.size)
              have HB6 := hid ((HB5.out).trans (hst6.mono (HB5.out).size))
              have HX6 := hid (show Box (w6.alloc (.cells #[.bool l6, .bool h6, .slice B16 m16 j16, .slice B26 m26 j26, .slice B36 m36 j36] 25)) w6.heap.size (.bool l6) (.bool h6) (.slice B16 m16 j16) (.slice B26 m26 j26) (.slice B36 m36 j36) from heap_alloc_new w6 _)
              have HN6 := hid (hin.old hbx)
              clear X0 hin hb6 hbx
              replace HX0 := hid (HX0.out.old hst6)
              replace HN0 := hid (HN0.out.old hst6)
              replace HX5 := hid (HX5.out.old hst6)
              replace HN5 := hid (HN5.out.old hst6)
              obtain ⟨⟨x0_0, x0_1, x0_2, x0_3, x0_4⟩, x0_z⟩ := (HX0.out).all
              clear x0_z
              obtain ⟨⟨x5_0, x5_1, x5_2, x5_3, x5_4⟩, x5_z⟩ := (HX5.out).all
              clear x5_z
              generalize hP6 : (w6.alloc (.cells #[.bool l6, .bool h6, .slice B16 m16 j16, .slice B26 m26 j26, .slice B36 m36 j36] 25)) = P6 at HB6 HX0 HN0 HX5 HN5 HX6 HN6
              have C5 := hid (refSame_any t t _ _ _ _ _ HN5.out HN0.out)
              rw [show same t t = true from same_refl _] at C5
              subst hP6
              go_wp2_with fail
              generalize (w6.alloc (.cells #[.bool l6, .bool h6, .slice B16 m16 j16, .slice B26 m26 j26, .slice B36 m36 j36] 25)) = P6 at *
              clear d0 d1 d2 d3 d4 dz0 dz1 dz2 dz3 dz4 hst6 x0_0 x0_1 x0_2 x0_3 x0_4 x5_0 x5_1 x5_2 x5_3 x5_4
              refine C5.out.mono ?_
              rintro e w10 ⟨rfl, hb⟩
              have HB_w10 := hid ((HB6.out).trans (hb.mono (HB6.out).size))
              replace HX0 := hid (HX0.out.old hb)
              replace HN0 := hid (HN0.out.old hb)
              replace HX5 := hid (HX5.out.old hb)
              replace HN5 := hid (HN5.out.old hb)
              replace HX6 := hid (HX6.out.old hb)
              replace HN6 := hid (HN6.out.old hb)
              clear hb
              obtain ⟨⟨x0_0, x0_1, x0_2, x0_3, x0_4⟩, x0_z⟩ := (HX0.out).all
              clear x0_z
              obtain ⟨⟨x6_0, x6_1, x6_2, x6_3, x6_4⟩, x6_z⟩ := (HX6.out).all
              clear x6_z
              have C6 := hid (refSame_any t t _ _ _ _ _ HN6.out HN0.out)
              rw [show same t t = true from same_refl _] at C6
              go_wp2_with fail
              clear x0_0 x0_1 x0_2 x0_3 x0_4 x6_0 x6_1 x6_2 x6_3 x6_4
              refine C6.out.mono ?_
              rintro e w11 ⟨rfl, hb⟩
              have HB_w11 := hid ((HB_w10.out).trans (hb.mono (HB_w10.out).size))
              replace HX0 := hid (HX0.out.old hb)
              replace HN0 := hid (HN0.out.old hb)
              replace HX5 := hid (HX5.out.old hb)
              replace HN5 := hid (HN5.out.old hb)
              replace HX6 := hid (HX6.out.old hb)
              replace HN6 := hid (HN6.out.old hb)
              clear hb
              go_wp2_with fail
              refine (CA.out _ HB_w11.out).mono ?_
              rintro e wA ⟨rfl, hbA⟩
              go_wp2_with fail
              go_ret
              exact ⟨rfl, (HB_w11.out).trans (hbA.mono (HB_w11.out).size)⟩
end Go.Proofs.YtcojkmcnigppbaaGreatDoor
