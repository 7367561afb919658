/-
  The walk of the law DateOrder over contracts of the program's package date. Conditions: those contracts.
-/
import Derived.Test.YtnbmgcjlgjcejaaDoorDatOk
import Derived.Deep.RegionHeld3
import Derived.RegionTactic
set_option linter.unusedVariables false
set_option maxRecDepth 100000
namespace Go.Proofs.YtnbmgcjlgjcejaaDoor
open Go Go.Proofs Go.RowKit Dat

theorem text_list (l : List UInt8) : (⟨l.toArray⟩ : ByteArray).toList = l := by rw [ByteArray.toList_eq]

set_option maxHeartbeats 8000000 in
/-- The walk behind both dates, once it is known how they stand. -/
theorem dorder_at (H : DateOk) (HP : PutOk) (A A' : Option Addr) (c c' : Nat) (l l' : List UInt8) (va vb : Nat) (w : World) (ht : Tab w) (hr : Reads w w.heap.size 1 A 19 (Lib.byteCells l)) (hr' : Reads w w.heap.size 1 A' 19 (Lib.byteCells l')) (hc : 19 ≤ c) (hc' : 19 ≤ c')
    (ha : dateR l = some va) (hb : dateR l' = some vb) :
    Calls Tryd.prog 4 #[.slice A 19 c, .slice A' 19 c'] w fun e w' => e = .returned (.bool true) ∧ Below w.heap.size w w' := by
  have HT := Lib.hid ht
  clear ht
  obtain ⟨hless, heq⟩ := date_less ha hb
  have hva := date_lt ha
  have hvb := date_lt hb
  have hbl : Hid (Op.bytesLess l l' = decide (va < vb)) := hless
  have hbe : Hid ((l == l') = decide (va = vb)) := by
    show _ = _
    by_cases h : l = l'
    · rw [decide_eq_true (heq.1 h), h]; exact beq_self_eq_true l'
    · rw [decide_eq_false (fun e => h (heq.2 e)), beq_eq_false_iff_ne]; exact h
  have HR := Lib.hid hr; have HR' := Lib.hid hr'; have HA := Lib.hid ha; have HB := Lib.hid hb
  clear hless heq hr hr' ha hb
  go_enter Tryd.func4, Tryd.ntmps4
  go_wp2_with fail
  refine (H.get A 19 c l w HR.out (by omega) hc).mono ?_
  rintro e w1 ⟨h1, hb1⟩
  rw [HA.out] at h1
  have h1' : e = .returned (.tuple #[.int .i64 (va : Int), .bool true]) := h1
  subst h1'
  clear h1
  go_wp2_with fail
  refine (H.get A' 19 c' l' w1 ((HR'.out.below hb1).more hb1.size) (by omega) hc').mono ?_
  rintro e w2 ⟨h2, hb2⟩
  rw [HB.out] at h2
  have h2' : e = .returned (.tuple #[.int .i64 (vb : Int), .bool true]) := h2
  subst h2'
  clear h2
  have HB2 := Lib.hid (hb1.trans (hb2.mono hb1.size))
  clear hb1 hb2
  go_wp2_with fail
  refine (HP.put va w2 (by omega) (by omega) (HT.out.old HB2.out)).mono ?_
  rintro e w3 ⟨hb3, hp, _⟩
  obtain ⟨s, hs, rfl⟩ := hp ⟨by omega, by omega⟩
  rw [Int.toNat_natCast] at hs
  obtain rfl : s = l := (date_less hs HA.out).2.2 rfl
  have HB3 := Lib.hid (HB2.out.trans (hb3.mono HB2.out.size))
  clear hb3 HB2 hs
  have k1 := run_back (c := c) ((HR.out.below HB3.out).more HB3.out.size)
  have k2 := run_back (c := c') ((HR'.out.below HB3.out).more HB3.out.size)
  have s1 := text_list s
  have s2 := text_list l'
  generalize (⟨s.toArray⟩ : ByteArray) = S at k1 s1 ⊢
  generalize (⟨l'.toArray⟩ : ByteArray) = S' at k2 s2
  have f1 : Hid (Op.bytesLess S.toList S'.toList = decide (va < vb)) := by show _ = _; rw [s1, s2]; exact hbl.out
  have f2 : Hid ((S.toList == S'.toList) = decide (va = vb)) := by show _ = _; rw [s1, s2]; exact hbe.out
  have f3 : (S.toList == S.toList) = true := beq_self_eq_true _
  clear s1 s2 hbl hbe
  have hfin : ∀ W, Below w.heap.size w W → Calls Tryd.prog 7 #[] W fun e w' => e = .returned (.bool true) ∧ Below w.heap.size w w' :=
    fun W hW => (awake10_any H W).mono (by rintro e w4 ⟨rfl, hb4⟩; exact ⟨rfl, hW.trans (hb4.mono hW.size)⟩)
  rcases Nat.lt_trichotomy va vb with h | h | h
  · have g1 : Op.bytesLess S.toList S'.toList = true := by rw [f1.out]; exact decide_eq_true h
    have g2 : (S.toList == S'.toList) = false := by rw [f2.out]; exact decide_eq_false (by omega)
    have g3 : ((va : Int) == (vb : Int)) = false := by rw [beq_eq_false_iff_ne]; omega
    go_wp2_with fail
    refine (hfin _ HB3.out).mono ?_
    rintro e w4 ⟨rfl, hb4⟩
    go_wp2
    go_ret
    exact ⟨rfl, hb4⟩
  · have g1 : Op.bytesLess S.toList S'.toList = false := by rw [f1.out]; exact decide_eq_false (by omega)
    have g2 : (S.toList == S'.toList) = true := by rw [f2.out]; exact decide_eq_true h
    have g3 : ((va : Int) == (vb : Int)) = true := by rw [beq_iff_eq, h]
    have g4 : Hid (va = vb) := h
    have g5 : decide (va < vb) = false := decide_eq_false (by omega)
    clear h
    go_wp2_with fail
    refine (hfin _ HB3.out).mono ?_
    rintro e w4 ⟨rfl, hb4⟩
    go_wp2
    go_ret
    exact ⟨rfl, hb4⟩
  · have g1 : Op.bytesLess S.toList S'.toList = false := by rw [f1.out]; exact decide_eq_false (by omega)
    have g2 : (S.toList == S'.toList) = false := by rw [f2.out]; exact decide_eq_false (by omega)
    have g3 : ((va : Int) == (vb : Int)) = false := by rw [beq_eq_false_iff_ne]; omega
    have g5 : decide (va < vb) = false := decide_eq_false (by omega)
    go_wp2_with fail
    refine (hfin _ HB3.out).mono ?_
    rintro e w4 ⟨rfl, hb4⟩
    go_wp2
    go_ret
    exact ⟨rfl, hb4⟩

set_option maxHeartbeats 4000000 in
theorem dorder_walk (H : DateOk) (HP : PutOk) (A A' : Option Addr) (n c n' c' : Nat) (l l' : List UInt8) (w : World) (ht : Tab w) (hr : Reads w w.heap.size 1 A n (Lib.byteCells l)) (hr' : Reads w w.heap.size 1 A' n' (Lib.byteCells l')) (hc : n ≤ c) (hc' : n' ≤ c') (hn : n ≤ 9223372036854775807) (hn' : n' ≤ 9223372036854775807) :
    Calls Tryd.prog 4 #[.slice A n c, .slice A' n' c'] w fun e w' => e = .returned (.bool true) ∧ Below w.heap.size w w' := by
  have HT := Lib.hid ht
  clear ht
  have hl : l.length = n := by have := hr.1; simpa [Lib.byteCells_length] using this
  have hl' : l'.length = n' := by have := hr'.1; simpa [Lib.byteCells_length] using this
  have hfin : ∀ W, Below w.heap.size w W → Calls Tryd.prog 7 #[] W fun e w' => e = .returned (.bool true) ∧ Below w.heap.size w w' :=
    fun W hW => (awake10_any H W).mono (by rintro e w4 ⟨rfl, hb4⟩; exact ⟨rfl, hW.trans (hb4.mono hW.size)⟩)
  cases ha : dateR l with
  | none =>
    obtain ⟨v', k', e2, _, _⟩ := opt_parts (dateR l')
    have HA := Lib.hid ha; have E2 := Lib.hid e2
    clear ha e2 hl hl'
    go_enter Tryd.func4, Tryd.ntmps4
    go_wp2_with fail
    refine (H.get A n c l w hr hn hc).mono ?_
    rintro e w1 ⟨h1, hb1⟩
    rw [HA.out] at h1
    have h1' : e = .returned (.tuple #[.int .i64 0, .bool false]) := h1
    subst h1'
    clear h1
    go_wp2_with fail
    refine (H.get A' n' c' l' w1 ((hr'.below hb1).more hb1.size) hn' hc').mono ?_
    rintro e w2 ⟨h2, hb2⟩
    rw [E2.out] at h2
    subst h2
    have HB2 := Lib.hid (hb1.trans (hb2.mono hb1.size))
    clear hb1 hb2 hr hr'
    go_wp2_with fail
    refine (hfin _ HB2.out).mono ?_
    rintro e w4 ⟨rfl, hb4⟩
    go_wp2
    go_ret
    exact ⟨rfl, hb4⟩
  | some va =>
    cases hb : dateR l' with
    | none =>
      have HA := Lib.hid ha; have HB := Lib.hid hb
      clear ha hb hl hl'
      go_enter Tryd.func4, Tryd.ntmps4
      go_wp2_with fail
      refine (H.get A n c l w hr hn hc).mono ?_
      rintro e w1 ⟨h1, hb1⟩
      rw [HA.out] at h1
      have h1' : e = .returned (.tuple #[.int .i64 (va : Int), .bool true]) := h1
      subst h1'
      clear h1
      go_wp2_with fail
      refine (H.get A' n' c' l' w1 ((hr'.below hb1).more hb1.size) hn' hc').mono ?_
      rintro e w2 ⟨h2, hb2⟩
      rw [HB.out] at h2
      have h2' : e = .returned (.tuple #[.int .i64 0, .bool false]) := h2
      subst h2'
      clear h2
      have HB2 := Lib.hid (hb1.trans (hb2.mono hb1.size))
      clear hb1 hb2 hr hr'
      go_wp2_with fail
      refine (hfin _ HB2.out).mono ?_
      rintro e w4 ⟨rfl, hb4⟩
      go_wp2
      go_ret
      exact ⟨rfl, hb4⟩
    | some vb =>
      obtain rfl : n = 19 := by rw [← hl]; exact date_len ha
      obtain rfl : n' = 19 := by rw [← hl']; exact date_len hb
      exact dorder_at H HP A A' c c' l l' va vb w HT.out hr hr' hc hc' ha hb

set_option maxHeartbeats 8000000 in
theorem dclock_at (H : DateOk) (HP : PutOk) (A : Option Addr) (c : Nat) (l : List UInt8) (v : Nat) (w : World) (ht : Tab w) (hr : Reads w w.heap.size 1 A 19 (Lib.byteCells l)) (hc : 19 ≤ c) (ha : dateR l = some v) :
    Calls Tryd.prog 5 #[.slice A 19 c] w fun e w' => e = .returned (.bool true) ∧ Below w.heap.size w w' := by
  have HT := Lib.hid ht
  clear ht
  have hva := date_lt ha
  have hclk := date_clock ha
  have hcut := hr.cut (k := 11) (cap := c) (by omega) hc
  rw [if_neg (by omega)] at hcut
  obtain ⟨ad, y0, rfl, _, _, _⟩ := dbyte hr (show 0 < 19 by omega)
  have hcut2 : Reads w w.heap.size 1 (some (ad.add 11)) 8 (Lib.byteCells (l.drop 11)) := by
    have : (Lib.byteCells l).drop (11 * 1) = Lib.byteCells (l.drop 11) := by simp [Lib.byteCells, List.map_drop]
    rw [this] at hcut
    exact hcut
  obtain ⟨q, hq⟩ : ∃ q, q = v % 86400 := ⟨_, rfl⟩
  have hqI : (v : Int) % 86400 = (q : Int) := by omega
  have hqI2 : (v : Int).tmod 86400 = (q : Int) := by rw [Int.tmod_eq_emod_of_nonneg (by omega)]; exact hqI
  have hqB : ((q : Int) == (q : Int)) = true := beq_self_eq_true _
  rw [← hq] at hclk
  have HR := Lib.hid hr; have HA := Lib.hid ha; have HC := Lib.hid hcut2; have HK := Lib.hid hclk; have HQ := Lib.hid hq
  clear hr ha hcut hcut2 hclk hq
  have hfin : ∀ W, Below w.heap.size w W → Calls Tryd.prog 7 #[] W fun e w' => e = .returned (.bool true) ∧ Below w.heap.size w w' :=
    fun W hW => (awake10_any H W).mono (by rintro e w4 ⟨rfl, hb4⟩; exact ⟨rfl, hW.trans (hb4.mono hW.size)⟩)
  go_enter Tryd.func5, Tryd.ntmps5
  go_wp2_with fail
  refine (H.get (some ad) 19 c l w HR.out (by omega) hc).mono ?_
  rintro e w1 ⟨h1, hb1⟩
  rw [HA.out] at h1
  have h1' : e = .returned (.tuple #[.int .i64 (v : Int), .bool true]) := h1
  subst h1'
  clear h1
  go_wp2_with fail
  refine (H.clock (some (ad.add 11)) 8 (c - 11) (l.drop 11) w1 ((HC.out.below hb1).more hb1.size) (by omega) (by omega)).mono ?_
  rintro e w2 ⟨h2, hb2⟩
  rw [HK.out] at h2
  have h2' : e = .returned (.tuple #[.int .i64 (q : Int), .bool true]) := h2
  subst h2'
  clear h2
  have HB2 := Lib.hid (hb1.trans (hb2.mono hb1.size))
  clear hb1 hb2
  obtain ⟨v', hv'⟩ : ∃ v', v' = v + 86400 := ⟨_, rfl⟩
  have HVI : Hid ((v : Int) + 86400 = (v' : Int)) := by show _ = _; omega
  have hvB : ((v' : Int) == (v : Int) + 86400) = true := by rw [beq_iff_eq]; omega
  go_wp2_with fail
  rw [HVI.out]
  refine (HP.put v' w2 (by omega) (by omega) (HT.out.old HB2.out)).mono ?_
  rintro e w3 ⟨hb3, hp, hp'⟩
  have HB3 := Lib.hid (HB2.out.trans (hb3.mono HB2.out.size))
  clear hb3 HB2
  by_cases hlt : v' < 315569520000
  · obtain ⟨s, hs, rfl⟩ := hp ⟨by omega, by omega⟩
    rw [Int.toNat_natCast] at hs
    clear hp hp'
    have hd : s.drop 11 = l.drop 11 := clock_inj (date_clock hs) (by rw [HK.out, HQ.out, hv']; congr 1; omega)
    obtain ⟨w4, c4, hcv, hr4, hb4, hc4⟩ := conv_text w3 s
    have hlen : s.length = 19 := date_len hs
    have HS := Lib.hid hs
    have HB4 := Lib.hid (HB3.out.trans (hb4.mono HB3.out.size))
    clear hs hb4
    rw [hlen] at hcv hr4 hc4
    go_wp2_with fail
    refine (refGet10_any _ 19 c4 s w4 hr4 (by omega) hc4).mono ?_
    rintro e w5 ⟨h5, hb5⟩
    rw [HS.out] at h5
    have h5' : e = .returned (.tuple #[.int .i64 (v' : Int), .bool true]) := h5
    subst h5'
    clear h5
    have HB5 := Lib.hid (HB4.out.trans (hb5.mono HB4.out.size))
    clear hb5 hcv hr4 hc4
    have k1 : ∀ W, Below w5.heap.size w5 W → (convert 27 9 (.slice (some (ad.add 11)) 8 (c - 11))).run Tryd.prog W = .ok (.string ⟨(l.drop 11).toArray⟩) W := fun W hW =>
      run_back (c := c - 11) (HC.out.below (HB5.out.trans (hW.mono HB5.out.size)))
    have t1 := text_list (l.drop 11)
    have t2 : ((⟨s.toArray⟩ : ByteArray).extract 11 19).toList = l.drop 11 := by
      rw [← hd, ByteArray.toList_eq]
      simp [ByteArray.data_extract]
      rw [List.take_of_length_le (by simp [hlen])]
    have t3 : (⟨s.toArray⟩ : ByteArray).size = 19 := by simp [ByteArray.size, hlen]
    generalize (⟨(l.drop 11).toArray⟩ : ByteArray) = TB at k1 t1
    generalize (⟨s.toArray⟩ : ByteArray) = S at t2 t3 ⊢
    obtain ⟨T, hT⟩ : ∃ T, S.extract 11 19 = T := ⟨_, rfl⟩
    rw [hT] at t2
    have hTB : (T.toList == TB.toList) = true := by rw [t1, t2]; exact beq_self_eq_true _
    have hadd : ad.add 11 = { block := ad.block, off := ad.off + 11 } := by simp [Addr.add]
    rw [hadd] at k1
    have HK1 := Lib.hid k1
    have hrem : (v : Int) % 86400 = (q : Int) := hqI
    have hltI : decide ((v : Int) + 86400 < 315569520000) = true := decide_eq_true (by omega)
    clear k1 t1 t2 hd hadd
    go_wp2_with fail
    refine wp_region_held_drew (S := fun V => Below w5.heap.size w5 V) (by kernel_rfl) (Below.refl _ _).drew (fun hHeld => ?_)
    have HB0 := Lib.hid ((Below.refl w5.heap.size w5).drew)
    generalize w5.drew = V0 at *
    refine' wpAnyH_take (i := 0) (oi := _) (v := _) ?hit0 ?hst0 ?hft0 ?hrt0 ?hQt0 ?hyt0 ?hSt0 ?_
    case hit0 => (simp only [List.getElem?_toArray, List.getElem?_cons_succ, List.getElem?_cons_zero]; rfl)
    case hst0 => kernel_rfl
    case hft0 => kernel_rfl
    case hrt0 => kernel_rfl
    case hQt0 => exact fun _ _ _ h => h
    case hSt0 => assumption
    case hyt0 =>
      refine Or.inl ⟨by rfl, ?_⟩
      intro w hSw
      (try dsimp only at hSw)
      go_simp
      all_goals (with_reducible rfl)
    (try simp only [Act.put, List.setIfInBounds_toArray, List.set_cons_zero, List.set_cons_succ])
    refine' wpAnyH_take (i := 1) (oi := _) (v := _) ?hit1 ?hst1 ?hft1 ?hrt1 ?hQt1 ?hyt1 ?hSt1 ?_
    case hit1 => (simp only [List.getElem?_toArray, List.getElem?_cons_succ, List.getElem?_cons_zero]; rfl)
    case hst1 => kernel_rfl
    case hft1 => kernel_rfl
    case hrt1 => kernel_rfl
    case hQt1 => exact fun _ _ _ h => h
    case hSt1 => assumption
    case hyt1 =>
      refine Or.inl ⟨by rfl, ?_⟩
      intro w hSw
      (try dsimp only at hSw)
      go_simp
      all_goals (with_reducible rfl)
    (try simp only [Act.put, List.setIfInBounds_toArray, List.set_cons_zero, List.set_cons_succ])
    refine' wpAnyH_take (i := 2) (oi := _) (v := _) ?hit2 ?hst2 ?hft2 ?hrt2 ?hQt2 ?hyt2 ?hSt2 ?_
    case hit2 => (simp only [List.getElem?_toArray, List.getElem?_cons_succ, List.getElem?_cons_zero]; rfl)
    case hst2 => kernel_rfl
    case hft2 => kernel_rfl
    case hrt2 => kernel_rfl
    case hQt2 => exact fun _ _ _ h => h
    case hSt2 => assumption
    case hyt2 =>
      refine Or.inl ⟨by rfl, ?_⟩
      intro w hSw
      (try dsimp only at hSw)
      go_simp
      all_goals (with_reducible rfl)
    (try simp only [Act.put, List.setIfInBounds_toArray, List.set_cons_zero, List.set_cons_succ])
    refine' wpAnyH_take (i := 3) (oi := _) (v := .int .i64 (q : Int)) ?hit3 ?hst3 ?hft3 ?hrt3 ?hQt3 ?hyt3 ?hSt3 ?_
    case hit3 => (simp only [List.getElem?_toArray, List.getElem?_cons_succ, List.getElem?_cons_zero]; rfl)
    case hst3 => kernel_rfl
    case hft3 => kernel_rfl
    case hrt3 => kernel_rfl
    case hQt3 => exact fun _ _ _ h => h
    case hSt3 => assumption
    case hyt3 =>
      refine Or.inl ⟨by rfl, ?_⟩
      intro W hS
      go_simp
    (try simp only [Act.put, List.setIfInBounds_toArray, List.set_cons_zero, List.set_cons_succ])
    refine' wpAnyH_take (i := 4) (oi := _) (v := _) ?hit4 ?hst4 ?hft4 ?hrt4 ?hQt4 ?hyt4 ?hSt4 ?_
    case hit4 => (simp only [List.getElem?_toArray, List.getElem?_cons_succ, List.getElem?_cons_zero]; rfl)
    case hst4 => kernel_rfl
    case hft4 => kernel_rfl
    case hrt4 => kernel_rfl
    case hQt4 => exact fun _ _ _ h => h
    case hSt4 => assumption
    case hyt4 =>
      refine Or.inl ⟨by rfl, ?_⟩
      intro w hSw
      (try dsimp only at hSw)
      go_simp
      all_goals (with_reducible rfl)
    (try simp only [Act.put, List.setIfInBounds_toArray, List.set_cons_zero, List.set_cons_succ])
    refine' wpAnyH_take (i := 5) (oi := _) (v := .bool true) ?hit5 ?hst5 ?hft5 ?hrt5 ?hQt5 ?hyt5 ?hSt5 ?_
    case hit5 => (simp only [List.getElem?_toArray, List.getElem?_cons_succ, List.getElem?_cons_zero]; rfl)
    case hst5 => kernel_rfl
    case hft5 => kernel_rfl
    case hrt5 => kernel_rfl
    case hQt5 => exact fun _ _ _ h => h
    case hSt5 => assumption
    case hyt5 =>
      refine Or.inl ⟨by rfl, ?_⟩
      intro W hS
      go_simp
    (try simp only [Act.put, List.setIfInBounds_toArray, List.set_cons_zero, List.set_cons_succ])
    refine' wpAnyH_take (i := 6) (oi := _) (v := _) ?hit6 ?hst6 ?hft6 ?hrt6 ?hQt6 ?hyt6 ?hSt6 ?_
    case hit6 => (simp only [List.getElem?_toArray, List.getElem?_cons_succ, List.getElem?_cons_zero]; rfl)
    case hst6 => kernel_rfl
    case hft6 => kernel_rfl
    case hrt6 => kernel_rfl
    case hQt6 => exact fun _ _ _ h => h
    case hSt6 => assumption
    case hyt6 =>
      refine Or.inl ⟨by rfl, ?_⟩
      intro w hSw
      (try dsimp only at hSw)
      go_simp
      all_goals (with_reducible rfl)
    (try simp only [Act.put, List.setIfInBounds_toArray, List.set_cons_zero, List.set_cons_succ])
    refine' wpAnyH_take (i := 7) (oi := _) (v := _) ?hit7 ?hst7 ?hft7 ?hrt7 ?hQt7 ?hyt7 ?hSt7 ?_
    case hit7 => (simp only [List.getElem?_toArray, List.getElem?_cons_succ, List.getElem?_cons_zero]; rfl)
    case hst7 => kernel_rfl
    case hft7 => kernel_rfl
    case hrt7 => kernel_rfl
    case hQt7 => exact fun _ _ _ h => h
    case hSt7 => assumption
    case hyt7 =>
      refine Or.inl ⟨by rfl, ?_⟩
      intro w hSw
      (try dsimp only at hSw)
      go_simp
      all_goals (with_reducible rfl)
    (try simp only [Act.put, List.setIfInBounds_toArray, List.set_cons_zero, List.set_cons_succ])
    refine' wpAnyH_take (i := 8) (oi := _) (v := _) ?hit8 ?hst8 ?hft8 ?hrt8 ?hQt8 ?hyt8 ?hSt8 ?_
    case hit8 => (simp only [List.getElem?_toArray, List.getElem?_cons_succ, List.getElem?_cons_zero]; rfl)
    case hst8 => kernel_rfl
    case hft8 => kernel_rfl
    case hrt8 => kernel_rfl
    case hQt8 => exact fun _ _ _ h => h
    case hSt8 => assumption
    case hyt8 =>
      refine Or.inl ⟨by rfl, ?_⟩
      intro w hSw
      (try dsimp only at hSw)
      go_simp
      all_goals (with_reducible rfl)
    (try simp only [Act.put, List.setIfInBounds_toArray, List.set_cons_zero, List.set_cons_succ])
    refine' wpAnyH_take (i := 9) (oi := _) (v := _) ?hit9 ?hst9 ?hft9 ?hrt9 ?hQt9 ?hyt9 ?hSt9 ?_
    case hit9 => (simp only [List.getElem?_toArray, List.getElem?_cons_succ, List.getElem?_cons_zero]; rfl)
    case hst9 => kernel_rfl
    case hft9 => kernel_rfl
    case hrt9 => kernel_rfl
    case hQt9 => exact fun _ _ _ h => h
    case hSt9 => assumption
    case hyt9 =>
      refine Or.inl ⟨by rfl, ?_⟩
      intro w hSw
      (try dsimp only at hSw)
      go_simp
      all_goals (with_reducible rfl)
    (try simp only [Act.put, List.setIfInBounds_toArray, List.set_cons_zero, List.set_cons_succ])
    refine' wpAnyH_take (i := 10) (oi := _) (v := .int .i64 ((v : Int) + 86400)) ?hit10 ?hst10 ?hft10 ?hrt10 ?hQt10 ?hyt10 ?hSt10 ?_
    case hit10 => (simp only [List.getElem?_toArray, List.getElem?_cons_succ, List.getElem?_cons_zero]; rfl)
    case hst10 => kernel_rfl
    case hft10 => kernel_rfl
    case hrt10 => kernel_rfl
    case hQt10 => exact fun _ _ _ h => h
    case hSt10 => assumption
    case hyt10 =>
      refine Or.inl ⟨by rfl, ?_⟩
      intro W hS
      (go_simp; all_goals exact IntWalk.i64_in _ (by omega))
    (try simp only [Act.put, List.setIfInBounds_toArray, List.set_cons_zero, List.set_cons_succ])
    refine' wpAnyH_take (i := 11) (oi := _) (v := .bool true) ?hit11 ?hst11 ?hft11 ?hrt11 ?hQt11 ?hyt11 ?hSt11 ?_
    case hit11 => (simp only [List.getElem?_toArray, List.getElem?_cons_succ, List.getElem?_cons_zero]; rfl)
    case hst11 => kernel_rfl
    case hft11 => kernel_rfl
    case hrt11 => kernel_rfl
    case hQt11 => exact fun _ _ _ h => h
    case hSt11 => assumption
    case hyt11 =>
      refine Or.inl ⟨by rfl, ?_⟩
      intro W hS
      (go_simp; all_goals (try rw [hltI]))
    (try simp only [Act.put, List.setIfInBounds_toArray, List.set_cons_zero, List.set_cons_succ])
    refine' wpAnyH_take (i := 12) (oi := _) (v := .bool true) ?hit12 ?hst12 ?hft12 ?hrt12 ?hQt12 ?hyt12 ?hSt12 ?_
    case hit12 => (simp only [List.getElem?_toArray, List.getElem?_cons_succ, List.getElem?_cons_zero]; rfl)
    case hst12 => kernel_rfl
    case hft12 => kernel_rfl
    case hrt12 => kernel_rfl
    case hQt12 => exact fun _ _ _ h => h
    case hSt12 => assumption
    case hyt12 =>
      refine Or.inl ⟨by rfl, ?_⟩
      intro W hS
      go_simp
    (try simp only [Act.put, List.setIfInBounds_toArray, List.set_cons_zero, List.set_cons_succ])
    refine' wpAnyH_take (i := 13) (oi := _) (v := _) ?hit13 ?hst13 ?hft13 ?hrt13 ?hQt13 ?hyt13 ?hSt13 ?_
    case hit13 => (simp only [List.getElem?_toArray, List.getElem?_cons_succ, List.getElem?_cons_zero]; rfl)
    case hst13 => kernel_rfl
    case hft13 => kernel_rfl
    case hrt13 => kernel_rfl
    case hQt13 => exact fun _ _ _ h => h
    case hSt13 => assumption
    case hyt13 =>
      refine Or.inl ⟨by rfl, ?_⟩
      intro w hSw
      (try dsimp only at hSw)
      go_simp
      all_goals (with_reducible rfl)
    (try simp only [Act.put, List.setIfInBounds_toArray, List.set_cons_zero, List.set_cons_succ])
    refine' wpAnyH_take (i := 14) (oi := _) (v := _) ?hit14 ?hst14 ?hft14 ?hrt14 ?hQt14 ?hyt14 ?hSt14 ?_
    case hit14 => (simp only [List.getElem?_toArray, List.getElem?_cons_succ, List.getElem?_cons_zero]; rfl)
    case hst14 => kernel_rfl
    case hft14 => kernel_rfl
    case hrt14 => kernel_rfl
    case hQt14 => exact fun _ _ _ h => h
    case hSt14 => assumption
    case hyt14 =>
      refine Or.inl ⟨by rfl, ?_⟩
      intro w hSw
      (try dsimp only at hSw)
      go_simp
      all_goals (with_reducible rfl)
    (try simp only [Act.put, List.setIfInBounds_toArray, List.set_cons_zero, List.set_cons_succ])
    refine' wpAnyH_take (i := 15) (oi := _) (v := _) ?hit15 ?hst15 ?hft15 ?hrt15 ?hQt15 ?hyt15 ?hSt15 ?_
    case hit15 => (simp only [List.getElem?_toArray, List.getElem?_cons_succ, List.getElem?_cons_zero]; rfl)
    case hst15 => kernel_rfl
    case hft15 => kernel_rfl
    case hrt15 => kernel_rfl
    case hQt15 => exact fun _ _ _ h => h
    case hSt15 => assumption
    case hyt15 =>
      refine Or.inl ⟨by rfl, ?_⟩
      intro w hSw
      (try dsimp only at hSw)
      go_simp
      all_goals (with_reducible rfl)
    (try simp only [Act.put, List.setIfInBounds_toArray, List.set_cons_zero, List.set_cons_succ])
    refine' wpAnyH_take (i := 16) (oi := _) (v := _) ?hit16 ?hst16 ?hft16 ?hrt16 ?hQt16 ?hyt16 ?hSt16 ?_
    case hit16 => (simp only [List.getElem?_toArray, List.getElem?_cons_succ, List.getElem?_cons_zero]; rfl)
    case hst16 => kernel_rfl
    case hft16 => kernel_rfl
    case hrt16 => kernel_rfl
    case hQt16 => exact fun _ _ _ h => h
    case hSt16 => assumption
    case hyt16 =>
      refine Or.inl ⟨by rfl, ?_⟩
      intro w hSw
      (try dsimp only at hSw)
      go_simp
      all_goals (with_reducible rfl)
    (try simp only [Act.put, List.setIfInBounds_toArray, List.set_cons_zero, List.set_cons_succ])
    refine' wpAnyH_take (i := 17) (oi := _) (v := _) ?hit17 ?hst17 ?hft17 ?hrt17 ?hQt17 ?hyt17 ?hSt17 ?_
    case hit17 => (simp only [List.getElem?_toArray, List.getElem?_cons_succ, List.getElem?_cons_zero]; rfl)
    case hst17 => kernel_rfl
    case hft17 => kernel_rfl
    case hrt17 => kernel_rfl
    case hQt17 => exact fun _ _ _ h => h
    case hSt17 => assumption
    case hyt17 =>
      refine Or.inl ⟨by rfl, ?_⟩
      intro w hSw
      (try dsimp only at hSw)
      go_simp
      all_goals (with_reducible rfl)
    (try simp only [Act.put, List.setIfInBounds_toArray, List.set_cons_zero, List.set_cons_succ])
    refine' wpAnyH_take (i := 18) (oi := _) (v := _) ?hit18 ?hst18 ?hft18 ?hrt18 ?hQt18 ?hyt18 ?hSt18 ?_
    case hit18 => (simp only [List.getElem?_toArray, List.getElem?_cons_succ, List.getElem?_cons_zero]; rfl)
    case hst18 => kernel_rfl
    case hft18 => kernel_rfl
    case hrt18 => kernel_rfl
    case hQt18 => exact fun _ _ _ h => h
    case hSt18 => assumption
    case hyt18 =>
      refine Or.inl ⟨by rfl, ?_⟩
      intro w hSw
      (try dsimp only at hSw)
      go_simp
      all_goals (with_reducible rfl)
    (try simp only [Act.put, List.setIfInBounds_toArray, List.set_cons_zero, List.set_cons_succ])
    refine' wpAnyH_take (i := 19) (oi := _) (v := _) ?hit19 ?hst19 ?hft19 ?hrt19 ?hQt19 ?hyt19 ?hSt19 ?_
    case hit19 => (simp only [List.getElem?_toArray, List.getElem?_cons_succ, List.getElem?_cons_zero]; rfl)
    case hst19 => kernel_rfl
    case hft19 => kernel_rfl
    case hrt19 => kernel_rfl
    case hQt19 => exact fun _ _ _ h => h
    case hSt19 => assumption
    case hyt19 =>
      refine Or.inl ⟨by rfl, ?_⟩
      intro w hSw
      (try dsimp only at hSw)
      go_simp
      all_goals (with_reducible rfl)
    (try simp only [Act.put, List.setIfInBounds_toArray, List.set_cons_zero, List.set_cons_succ])
    refine' wpAnyH_take (i := 20) (oi := _) (v := _) ?hit20 ?hst20 ?hft20 ?hrt20 ?hQt20 ?hyt20 ?hSt20 ?_
    case hit20 => (simp only [List.getElem?_toArray, List.getElem?_cons_succ, List.getElem?_cons_zero]; rfl)
    case hst20 => kernel_rfl
    case hft20 => kernel_rfl
    case hrt20 => kernel_rfl
    case hQt20 => exact fun _ _ _ h => h
    case hSt20 => assumption
    case hyt20 =>
      refine Or.inl ⟨by rfl, ?_⟩
      intro w hSw
      (try dsimp only at hSw)
      go_simp
      all_goals (with_reducible rfl)
    (try simp only [Act.put, List.setIfInBounds_toArray, List.set_cons_zero, List.set_cons_succ])
    refine' wpAnyH_take (i := 21) (oi := _) (v := _) ?hit21 ?hst21 ?hft21 ?hrt21 ?hQt21 ?hyt21 ?hSt21 ?_
    case hit21 => (simp only [List.getElem?_toArray, List.getElem?_cons_succ, List.getElem?_cons_zero]; rfl)
    case hst21 => kernel_rfl
    case hft21 => kernel_rfl
    case hrt21 => kernel_rfl
    case hQt21 => exact fun _ _ _ h => h
    case hSt21 => assumption
    case hyt21 =>
      refine Or.inl ⟨by rfl, ?_⟩
      intro w hSw
      (try dsimp only at hSw)
      go_simp
      all_goals (with_reducible rfl)
    (try simp only [Act.put, List.setIfInBounds_toArray, List.set_cons_zero, List.set_cons_succ])
    refine' wpAnyH_take (i := 22) (oi := _) (v := .int .i64 ((v : Int) + 86400)) ?hit22 ?hst22 ?hft22 ?hrt22 ?hQt22 ?hyt22 ?hSt22 ?_
    case hit22 => (simp only [List.getElem?_toArray, List.getElem?_cons_succ, List.getElem?_cons_zero]; rfl)
    case hst22 => kernel_rfl
    case hft22 => kernel_rfl
    case hrt22 => kernel_rfl
    case hQt22 => exact fun _ _ _ h => h
    case hSt22 => assumption
    case hyt22 =>
      refine Or.inl ⟨by rfl, ?_⟩
      intro W hS
      (go_simp; all_goals exact IntWalk.i64_in _ (by omega))
    (try simp only [Act.put, List.setIfInBounds_toArray, List.set_cons_zero, List.set_cons_succ])
    refine' wpAnyH_take (i := 23) (oi := _) (v := .bool true) ?hit23 ?hst23 ?hft23 ?hrt23 ?hQt23 ?hyt23 ?hSt23 ?_
    case hit23 => (simp only [List.getElem?_toArray, List.getElem?_cons_succ, List.getElem?_cons_zero]; rfl)
    case hst23 => kernel_rfl
    case hft23 => kernel_rfl
    case hrt23 => kernel_rfl
    case hQt23 => exact fun _ _ _ h => h
    case hSt23 => assumption
    case hyt23 =>
      refine Or.inl ⟨by rfl, ?_⟩
      intro W hS
      go_simp
    (try simp only [Act.put, List.setIfInBounds_toArray, List.set_cons_zero, List.set_cons_succ])
    refine' wpAnyH_take (i := 24) (oi := _) (v := _) ?hit24 ?hst24 ?hft24 ?hrt24 ?hQt24 ?hyt24 ?hSt24 ?_
    case hit24 => (simp only [List.getElem?_toArray, List.getElem?_cons_succ, List.getElem?_cons_zero]; rfl)
    case hst24 => kernel_rfl
    case hft24 => kernel_rfl
    case hrt24 => kernel_rfl
    case hQt24 => exact fun _ _ _ h => h
    case hSt24 => assumption
    case hyt24 =>
      refine Or.inl ⟨by rfl, ?_⟩
      intro w hSw
      (try dsimp only at hSw)
      go_simp
      all_goals (with_reducible rfl)
    (try simp only [Act.put, List.setIfInBounds_toArray, List.set_cons_zero, List.set_cons_succ])
    refine' wpAnyH_take (i := 25) (oi := _) (v := _) ?hit25 ?hst25 ?hft25 ?hrt25 ?hQt25 ?hyt25 ?hSt25 ?_
    case hit25 => (simp only [List.getElem?_toArray, List.getElem?_cons_succ, List.getElem?_cons_zero]; rfl)
    case hst25 => kernel_rfl
    case hft25 => kernel_rfl
    case hrt25 => kernel_rfl
    case hQt25 => exact fun _ _ _ h => h
    case hSt25 => assumption
    case hyt25 =>
      refine Or.inl ⟨by rfl, ?_⟩
      intro w hSw
      (try dsimp only at hSw)
      go_simp
      all_goals (with_reducible rfl)
    (try simp only [Act.put, List.setIfInBounds_toArray, List.set_cons_zero, List.set_cons_succ])
    refine' wpAnyH_take (i := 26) (oi := _) (v := _) ?hit26 ?hst26 ?hft26 ?hrt26 ?hQt26 ?hyt26 ?hSt26 ?_
    case hit26 => (simp only [List.getElem?_toArray, List.getElem?_cons_succ, List.getElem?_cons_zero]; rfl)
    case hst26 => kernel_rfl
    case hft26 => kernel_rfl
    case hrt26 => kernel_rfl
    case hQt26 => exact fun _ _ _ h => h
    case hSt26 => assumption
    case hyt26 =>
      refine Or.inl ⟨by rfl, ?_⟩
      intro w hSw
      (try dsimp only at hSw)
      go_simp
      all_goals (with_reducible rfl)
    (try simp only [Act.put, List.setIfInBounds_toArray, List.set_cons_zero, List.set_cons_succ])
    refine' wpAnyH_take (i := 27) (oi := _) (v := .string T) ?hit27 ?hst27 ?hft27 ?hrt27 ?hQt27 ?hyt27 ?hSt27 ?_
    case hit27 => (simp only [List.getElem?_toArray, List.getElem?_cons_succ, List.getElem?_cons_zero]; rfl)
    case hst27 => kernel_rfl
    case hft27 => kernel_rfl
    case hrt27 => kernel_rfl
    case hQt27 => exact fun _ _ _ h => h
    case hSt27 => assumption
    case hyt27 =>
      refine Or.inl ⟨by rfl, ?_⟩
      intro W hS
      go_simp
    (try simp only [Act.put, List.setIfInBounds_toArray, List.set_cons_zero, List.set_cons_succ])
    refine' wpAnyH_take (i := 28) (oi := _) (v := _) ?hit28 ?hst28 ?hft28 ?hrt28 ?hQt28 ?hyt28 ?hSt28 ?_
    case hit28 => (simp only [List.getElem?_toArray, List.getElem?_cons_succ, List.getElem?_cons_zero]; rfl)
    case hst28 => kernel_rfl
    case hft28 => kernel_rfl
    case hrt28 => kernel_rfl
    case hQt28 => exact fun _ _ _ h => h
    case hSt28 => assumption
    case hyt28 =>
      refine Or.inl ⟨by rfl, ?_⟩
      intro w hSw
      (try dsimp only at hSw)
      go_simp
      all_goals (with_reducible rfl)
    (try simp only [Act.put, List.setIfInBounds_toArray, List.set_cons_zero, List.set_cons_succ])
    refine' wpAnyH_take (i := 29) (oi := _) (v := .slice (some { block := ad.block, off := ad.off + 11 }) 8 (c - 11)) ?hit29 ?hst29 ?hft29 ?hrt29 ?hQt29 ?hyt29 ?hSt29 ?_
    case hit29 => (simp only [List.getElem?_toArray, List.getElem?_cons_succ, List.getElem?_cons_zero]; rfl)
    case hst29 => kernel_rfl
    case hft29 => kernel_rfl
    case hrt29 => kernel_rfl
    case hQt29 => exact fun _ _ _ h => h
    case hSt29 => assumption
    case hyt29 =>
      refine Or.inl ⟨by rfl, ?_⟩
      intro W hS
      (go_simp; all_goals (intro h; omega))
    (try simp only [Act.put, List.setIfInBounds_toArray, List.set_cons_zero, List.set_cons_succ])
    refine' wpAnyH_take (i := 30) (oi := _) (v := .string TB) ?hit30 ?hst30 ?hft30 ?hrt30 ?hQt30 ?hyt30 ?hSt30 ?_
    case hit30 => (simp only [List.getElem?_toArray, List.getElem?_cons_succ, List.getElem?_cons_zero]; rfl)
    case hst30 => kernel_rfl
    case hft30 => kernel_rfl
    case hrt30 => kernel_rfl
    case hQt30 => exact fun _ _ _ h => h
    case hSt30 => assumption
    case hyt30 =>
      refine Or.inl ⟨by rfl, ?_⟩
      intro W hS
      (have hk := HK1.out W hS; go_simp)
    (try simp only [Act.put, List.setIfInBounds_toArray, List.set_cons_zero, List.set_cons_succ])
    refine' wpAnyH_take (i := 31) (oi := _) (v := .bool true) ?hit31 ?hst31 ?hft31 ?hrt31 ?hQt31 ?hyt31 ?hSt31 ?_
    case hit31 => (simp only [List.getElem?_toArray, List.getElem?_cons_succ, List.getElem?_cons_zero]; rfl)
    case hst31 => kernel_rfl
    case hft31 => kernel_rfl
    case hrt31 => kernel_rfl
    case hQt31 => exact fun _ _ _ h => h
    case hSt31 => assumption
    case hyt31 =>
      refine Or.inl ⟨by rfl, ?_⟩
      intro W hS
      go_simp
    (try simp only [Act.put, List.setIfInBounds_toArray, List.set_cons_zero, List.set_cons_succ])
    refine' wpAnyH_take (i := 32) (oi := _) (v := _) ?hit32 ?hst32 ?hft32 ?hrt32 ?hQt32 ?hyt32 ?hSt32 ?_
    case hit32 => (simp only [List.getElem?_toArray, List.getElem?_cons_succ, List.getElem?_cons_zero]; rfl)
    case hst32 => kernel_rfl
    case hft32 => kernel_rfl
    case hrt32 => kernel_rfl
    case hQt32 => exact fun _ _ _ h => h
    case hSt32 => assumption
    case hyt32 =>
      refine Or.inl ⟨by rfl, ?_⟩
      intro w hSw
      (try dsimp only at hSw)
      go_simp
      all_goals (with_reducible rfl)
    (try simp only [Act.put, List.setIfInBounds_toArray, List.set_cons_zero, List.set_cons_succ])
    refine' wpAnyH_take (i := 33) (oi := _) (v := _) ?hit33 ?hst33 ?hft33 ?hrt33 ?hQt33 ?hyt33 ?hSt33 ?_
    case hit33 => (simp only [List.getElem?_toArray, List.getElem?_cons_succ, List.getElem?_cons_zero]; rfl)
    case hst33 => kernel_rfl
    case hft33 => kernel_rfl
    case hrt33 => kernel_rfl
    case hQt33 => exact fun _ _ _ h => h
    case hSt33 => assumption
    case hyt33 =>
      refine Or.inl ⟨by rfl, ?_⟩
      intro w hSw
      (try dsimp only at hSw)
      go_simp
      all_goals (with_reducible rfl)
    (try simp only [Act.put, List.setIfInBounds_toArray, List.set_cons_zero, List.set_cons_succ])
    refine' wpAnyH_take (i := 34) (oi := _) (v := _) ?hit34 ?hst34 ?hft34 ?hrt34 ?hQt34 ?hyt34 ?hSt34 ?_
    case hit34 => (simp only [List.getElem?_toArray, List.getElem?_cons_succ, List.getElem?_cons_zero]; rfl)
    case hst34 => kernel_rfl
    case hft34 => kernel_rfl
    case hrt34 => kernel_rfl
    case hQt34 => exact fun _ _ _ h => h
    case hSt34 => assumption
    case hyt34 =>
      refine Or.inl ⟨by rfl, ?_⟩
      intro w hSw
      (try dsimp only at hSw)
      go_simp
      all_goals (with_reducible rfl)
    (try simp only [Act.put, List.setIfInBounds_toArray, List.set_cons_zero, List.set_cons_succ])
    refine' wpAnyH_take (i := 35) (oi := _) (v := _) ?hit35 ?hst35 ?hft35 ?hrt35 ?hQt35 ?hyt35 ?hSt35 ?_
    case hit35 => (simp only [List.getElem?_toArray, List.getElem?_cons_succ, List.getElem?_cons_zero]; rfl)
    case hst35 => kernel_rfl
    case hft35 => kernel_rfl
    case hrt35 => kernel_rfl
    case hQt35 => exact fun _ _ _ h => h
    case hSt35 => assumption
    case hyt35 =>
      refine Or.inl ⟨by rfl, ?_⟩
      intro w hSw
      (try dsimp only at hSw)
      go_simp
      all_goals (with_reducible rfl)
    (try simp only [Act.put, List.setIfInBounds_toArray, List.set_cons_zero, List.set_cons_succ])
    refine wpAnyH_ready (rs := [36]) (by kernel_rfl) (by simp) ?_
    refine' AllReadyH.cons (o := _) ?hir36 (fun K hK => ?_) AllReadyH.nil
    case hir36 => (simp only [List.getElem?_toArray, List.getElem?_cons_succ, List.getElem?_cons_zero]; rfl)
    go_simp
    refine (awake10_any H V0).mono ?_
    rintro e w7 ⟨rfl, hb7⟩
    refine hK.out _ _ ?_ (fun hHeld => ?_)
    · exact HB0.out.trans (hb7.mono HB0.out.size)
    clear hK K
    (try simp only [Act.put, List.setIfInBounds_toArray, List.set_cons_zero, List.set_cons_succ])
    refine' wpAnyH_take (i := 37) (oi := _) (v := _) ?hit37 ?hst37 ?hft37 ?hrt37 ?hQt37 ?hyt37 ?hSt37 ?_
    case hit37 => (simp only [List.getElem?_toArray, List.getElem?_cons_succ, List.getElem?_cons_zero]; rfl)
    case hst37 => kernel_rfl
    case hft37 => kernel_rfl
    case hrt37 => kernel_rfl
    case hQt37 => exact fun _ _ _ h => h
    case hSt37 => assumption
    case hyt37 =>
      refine Or.inl ⟨by rfl, ?_⟩
      intro w hSw
      (try dsimp only at hSw)
      go_simp
      all_goals (with_reducible rfl)
    (try simp only [Act.put, List.setIfInBounds_toArray, List.set_cons_zero, List.set_cons_succ])
    refine' wpAnyH_take (i := 38) (oi := _) (v := _) ?hit38 ?hst38 ?hft38 ?hrt38 ?hQt38 ?hyt38 ?hSt38 ?_
    case hit38 => (simp only [List.getElem?_toArray, List.getElem?_cons_succ, List.getElem?_cons_zero]; rfl)
    case hst38 => kernel_rfl
    case hft38 => kernel_rfl
    case hrt38 => kernel_rfl
    case hQt38 => exact fun _ _ _ h => h
    case hSt38 => assumption
    case hyt38 =>
      refine Or.inl ⟨by rfl, ?_⟩
      intro w hSw
      (try dsimp only at hSw)
      go_simp
      all_goals (with_reducible rfl)
    (try simp only [Act.put, List.setIfInBounds_toArray, List.set_cons_zero, List.set_cons_succ])
    refine wpAnyH_done (by kernel_rfl) ?_ _
    go_wp2_with fail
    go_ret
    exact ⟨rfl, HB5.out.trans ((HB0.out.trans (hb7.mono HB0.out.size)).mono HB5.out.size)⟩
  · obtain rfl := hp' (by omega)
    clear hp hp'
    obtain ⟨w4, c4, hcv, hr4, hb4, hc4⟩ := conv_text w3 []
    have HB4 := Lib.hid (HB3.out.trans (hb4.mono HB3.out.size))
    clear hb4
    have hcv2 : (convert 9 27 (.string ⟨#[]⟩)).run Tryd.prog w3 = .ok (.slice (some ⟨w3.heap.size, 0, none⟩) 0 c4) w4 := hcv
    have hr5 : Reads w4 w4.heap.size 1 (some ⟨w3.heap.size, 0, none⟩) 0 (Lib.byteCells []) := hr4
    clear hcv hr4
    go_wp2_with fail
    refine (refGet10_any _ 0 c4 [] w4 hr5 (by omega) (by omega)).mono ?_
    rintro e w5 ⟨h5, hb5⟩
    have h5' : e = .returned (.tuple #[.int .i64 0, .bool false]) := h5
    subst h5'
    clear h5
    have HB5 := Lib.hid (HB4.out.trans (hb5.mono HB4.out.size))
    clear hb5 hcv2 hr5 hc4
    have hltI : decide ((v : Int) + 86400 < 315569520000) = false := decide_eq_false (by omega)
    go_wp2_with fail
    refine wp_region_held_drew (S := fun V => Below w5.heap.size w5 V) (by kernel_rfl) (Below.refl _ _).drew (fun hHeld => ?_)
    have HB0 := Lib.hid ((Below.refl w5.heap.size w5).drew)
    generalize w5.drew = V0 at *
    refine' wpAnyH_take (i := 0) (oi := _) (v := _) ?hit0 ?hst0 ?hft0 ?hrt0 ?hQt0 ?hyt0 ?hSt0 ?_
    case hit0 => (simp only [List.getElem?_toArray, List.getElem?_cons_succ, List.getElem?_cons_zero]; rfl)
    case hst0 => kernel_rfl
    case hft0 => kernel_rfl
    case hrt0 => kernel_rfl
    case hQt0 => exact fun _ _ _ h => h
    case hSt0 => assumption
    case hyt0 =>
      refine Or.inl ⟨by rfl, ?_⟩
      intro w hSw
      (try dsimp only at hSw)
      go_simp
      all_goals (with_reducible rfl)
    (try simp only [Act.put, List.setIfInBounds_toArray, List.set_cons_zero, List.set_cons_succ])
    refine' wpAnyH_take (i := 1) (oi := _) (v := _) ?hit1 ?hst1 ?hft1 ?hrt1 ?hQt1 ?hyt1 ?hSt1 ?_
    case hit1 => (simp only [List.getElem?_toArray, List.getElem?_cons_succ, List.getElem?_cons_zero]; rfl)
    case hst1 => kernel_rfl
    case hft1 => kernel_rfl
    case hrt1 => kernel_rfl
    case hQt1 => exact fun _ _ _ h => h
    case hSt1 => assumption
    case hyt1 =>
      refine Or.inl ⟨by rfl, ?_⟩
      intro w hSw
      (try dsimp only at hSw)
      go_simp
      all_goals (with_reducible rfl)
    (try simp only [Act.put, List.setIfInBounds_toArray, List.set_cons_zero, List.set_cons_succ])
    refine' wpAnyH_take (i := 2) (oi := _) (v := _) ?hit2 ?hst2 ?hft2 ?hrt2 ?hQt2 ?hyt2 ?hSt2 ?_
    case hit2 => (simp only [List.getElem?_toArray, List.getElem?_cons_succ, List.getElem?_cons_zero]; rfl)
    case hst2 => kernel_rfl
    case hft2 => kernel_rfl
    case hrt2 => kernel_rfl
    case hQt2 => exact fun _ _ _ h => h
    case hSt2 => assumption
    case hyt2 =>
      refine Or.inl ⟨by rfl, ?_⟩
      intro w hSw
      (try dsimp only at hSw)
      go_simp
      all_goals (with_reducible rfl)
    (try simp only [Act.put, List.setIfInBounds_toArray, List.set_cons_zero, List.set_cons_succ])
    refine' wpAnyH_take (i := 3) (oi := _) (v := .int .i64 (q : Int)) ?hit3 ?hst3 ?hft3 ?hrt3 ?hQt3 ?hyt3 ?hSt3 ?_
    case hit3 => (simp only [List.getElem?_toArray, List.getElem?_cons_succ, List.getElem?_cons_zero]; rfl)
    case hst3 => kernel_rfl
    case hft3 => kernel_rfl
    case hrt3 => kernel_rfl
    case hQt3 => exact fun _ _ _ h => h
    case hSt3 => assumption
    case hyt3 =>
      refine Or.inl ⟨by rfl, ?_⟩
      intro W hS
      go_simp
    (try simp only [Act.put, List.setIfInBounds_toArray, List.set_cons_zero, List.set_cons_succ])
    refine' wpAnyH_take (i := 4) (oi := _) (v := _) ?hit4 ?hst4 ?hft4 ?hrt4 ?hQt4 ?hyt4 ?hSt4 ?_
    case hit4 => (simp only [List.getElem?_toArray, List.getElem?_cons_succ, List.getElem?_cons_zero]; rfl)
    case hst4 => kernel_rfl
    case hft4 => kernel_rfl
    case hrt4 => kernel_rfl
    case hQt4 => exact fun _ _ _ h => h
    case hSt4 => assumption
    case hyt4 =>
      refine Or.inl ⟨by rfl, ?_⟩
      intro w hSw
      (try dsimp only at hSw)
      go_simp
      all_goals (with_reducible rfl)
    (try simp only [Act.put, List.setIfInBounds_toArray, List.set_cons_zero, List.set_cons_succ])
    refine' wpAnyH_take (i := 5) (oi := _) (v := .bool true) ?hit5 ?hst5 ?hft5 ?hrt5 ?hQt5 ?hyt5 ?hSt5 ?_
    case hit5 => (simp only [List.getElem?_toArray, List.getElem?_cons_succ, List.getElem?_cons_zero]; rfl)
    case hst5 => kernel_rfl
    case hft5 => kernel_rfl
    case hrt5 => kernel_rfl
    case hQt5 => exact fun _ _ _ h => h
    case hSt5 => assumption
    case hyt5 =>
      refine Or.inl ⟨by rfl, ?_⟩
      intro W hS
      go_simp
    (try simp only [Act.put, List.setIfInBounds_toArray, List.set_cons_zero, List.set_cons_succ])
    refine' wpAnyH_take (i := 6) (oi := _) (v := _) ?hit6 ?hst6 ?hft6 ?hrt6 ?hQt6 ?hyt6 ?hSt6 ?_
    case hit6 => (simp only [List.getElem?_toArray, List.getElem?_cons_succ, List.getElem?_cons_zero]; rfl)
    case hst6 => kernel_rfl
    case hft6 => kernel_rfl
    case hrt6 => kernel_rfl
    case hQt6 => exact fun _ _ _ h => h
    case hSt6 => assumption
    case hyt6 =>
      refine Or.inl ⟨by rfl, ?_⟩
      intro w hSw
      (try dsimp only at hSw)
      go_simp
      all_goals (with_reducible rfl)
    (try simp only [Act.put, List.setIfInBounds_toArray, List.set_cons_zero, List.set_cons_succ])
    refine' wpAnyH_take (i := 7) (oi := _) (v := _) ?hit7 ?hst7 ?hft7 ?hrt7 ?hQt7 ?hyt7 ?hSt7 ?_
    case hit7 => (simp only [List.getElem?_toArray, List.getElem?_cons_succ, List.getElem?_cons_zero]; rfl)
    case hst7 => kernel_rfl
    case hft7 => kernel_rfl
    case hrt7 => kernel_rfl
    case hQt7 => exact fun _ _ _ h => h
    case hSt7 => assumption
    case hyt7 =>
      refine Or.inl ⟨by rfl, ?_⟩
      intro w hSw
      (try dsimp only at hSw)
      go_simp
      all_goals (with_reducible rfl)
    (try simp only [Act.put, List.setIfInBounds_toArray, List.set_cons_zero, List.set_cons_succ])
    refine' wpAnyH_take (i := 8) (oi := _) (v := _) ?hit8 ?hst8 ?hft8 ?hrt8 ?hQt8 ?hyt8 ?hSt8 ?_
    case hit8 => (simp only [List.getElem?_toArray, List.getElem?_cons_succ, List.getElem?_cons_zero]; rfl)
    case hst8 => kernel_rfl
    case hft8 => kernel_rfl
    case hrt8 => kernel_rfl
    case hQt8 => exact fun _ _ _ h => h
    case hSt8 => assumption
    case hyt8 =>
      refine Or.inl ⟨by rfl, ?_⟩
      intro w hSw
      (try dsimp only at hSw)
      go_simp
      all_goals (with_reducible rfl)
    (try simp only [Act.put, List.setIfInBounds_toArray, List.set_cons_zero, List.set_cons_succ])
    refine' wpAnyH_take (i := 9) (oi := _) (v := _) ?hit9 ?hst9 ?hft9 ?hrt9 ?hQt9 ?hyt9 ?hSt9 ?_
    case hit9 => (simp only [List.getElem?_toArray, List.getElem?_cons_succ, List.getElem?_cons_zero]; rfl)
    case hst9 => kernel_rfl
    case hft9 => kernel_rfl
    case hrt9 => kernel_rfl
    case hQt9 => exact fun _ _ _ h => h
    case hSt9 => assumption
    case hyt9 =>
      refine Or.inl ⟨by rfl, ?_⟩
      intro w hSw
      (try dsimp only at hSw)
      go_simp
      all_goals (with_reducible rfl)
    (try simp only [Act.put, List.setIfInBounds_toArray, List.set_cons_zero, List.set_cons_succ])
    refine' wpAnyH_take (i := 10) (oi := _) (v := .int .i64 ((v : Int) + 86400)) ?hit10 ?hst10 ?hft10 ?hrt10 ?hQt10 ?hyt10 ?hSt10 ?_
    case hit10 => (simp only [List.getElem?_toArray, List.getElem?_cons_succ, List.getElem?_cons_zero]; rfl)
    case hst10 => kernel_rfl
    case hft10 => kernel_rfl
    case hrt10 => kernel_rfl
    case hQt10 => exact fun _ _ _ h => h
    case hSt10 => assumption
    case hyt10 =>
      refine Or.inl ⟨by rfl, ?_⟩
      intro W hS
      (go_simp; all_goals exact IntWalk.i64_in _ (by omega))
    (try simp only [Act.put, List.setIfInBounds_toArray, List.set_cons_zero, List.set_cons_succ])
    refine' wpAnyH_take (i := 11) (oi := _) (v := .bool false) ?hit11 ?hst11 ?hft11 ?hrt11 ?hQt11 ?hyt11 ?hSt11 ?_
    case hit11 => (simp only [List.getElem?_toArray, List.getElem?_cons_succ, List.getElem?_cons_zero]; rfl)
    case hst11 => kernel_rfl
    case hft11 => kernel_rfl
    case hrt11 => kernel_rfl
    case hQt11 => exact fun _ _ _ h => h
    case hSt11 => assumption
    case hyt11 =>
      refine Or.inl ⟨by rfl, ?_⟩
      intro W hS
      (go_simp; all_goals (try rw [hltI]))
    (try simp only [Act.put, List.setIfInBounds_toArray, List.set_cons_zero, List.set_cons_succ])
    refine' wpAnyH_take (i := 12) (oi := _) (v := .bool true) ?hit12 ?hst12 ?hft12 ?hrt12 ?hQt12 ?hyt12 ?hSt12 ?_
    case hit12 => (simp only [List.getElem?_toArray, List.getElem?_cons_succ, List.getElem?_cons_zero]; rfl)
    case hst12 => kernel_rfl
    case hft12 => kernel_rfl
    case hrt12 => kernel_rfl
    case hQt12 => exact fun _ _ _ h => h
    case hSt12 => assumption
    case hyt12 =>
      refine Or.inl ⟨by rfl, ?_⟩
      intro W hS
      go_simp
    (try simp only [Act.put, List.setIfInBounds_toArray, List.set_cons_zero, List.set_cons_succ])
    refine' wpAnyH_take (i := 13) (oi := _) (v := _) ?hit13 ?hst13 ?hft13 ?hrt13 ?hQt13 ?hyt13 ?hSt13 ?_
    case hit13 => (simp only [List.getElem?_toArray, List.getElem?_cons_succ, List.getElem?_cons_zero]; rfl)
    case hst13 => kernel_rfl
    case hft13 => kernel_rfl
    case hrt13 => kernel_rfl
    case hQt13 => exact fun _ _ _ h => h
    case hSt13 => assumption
    case hyt13 =>
      refine Or.inl ⟨by rfl, ?_⟩
      intro w hSw
      (try dsimp only at hSw)
      go_simp
      all_goals (with_reducible rfl)
    (try simp only [Act.put, List.setIfInBounds_toArray, List.set_cons_zero, List.set_cons_succ])
    refine' wpAnyH_take (i := 14) (oi := _) (v := _) ?hit14 ?hst14 ?hft14 ?hrt14 ?hQt14 ?hyt14 ?hSt14 ?_
    case hit14 => (simp only [List.getElem?_toArray, List.getElem?_cons_succ, List.getElem?_cons_zero]; rfl)
    case hst14 => kernel_rfl
    case hft14 => kernel_rfl
    case hrt14 => kernel_rfl
    case hQt14 => exact fun _ _ _ h => h
    case hSt14 => assumption
    case hyt14 =>
      refine Or.inl ⟨by rfl, ?_⟩
      intro w hSw
      (try dsimp only at hSw)
      go_simp
      all_goals (with_reducible rfl)
    (try simp only [Act.put, List.setIfInBounds_toArray, List.set_cons_zero, List.set_cons_succ])
    refine' wpAnyH_take (i := 15) (oi := _) (v := _) ?hit15 ?hst15 ?hft15 ?hrt15 ?hQt15 ?hyt15 ?hSt15 ?_
    case hit15 => (simp only [List.getElem?_toArray, List.getElem?_cons_succ, List.getElem?_cons_zero]; rfl)
    case hst15 => kernel_rfl
    case hft15 => kernel_rfl
    case hrt15 => kernel_rfl
    case hQt15 => exact fun _ _ _ h => h
    case hSt15 => assumption
    case hyt15 =>
      refine Or.inl ⟨by rfl, ?_⟩
      intro w hSw
      (try dsimp only at hSw)
      go_simp
      all_goals (with_reducible rfl)
    (try simp only [Act.put, List.setIfInBounds_toArray, List.set_cons_zero, List.set_cons_succ])
    refine' wpAnyH_take (i := 16) (oi := _) (v := _) ?hit16 ?hst16 ?hft16 ?hrt16 ?hQt16 ?hyt16 ?hSt16 ?_
    case hit16 => (simp only [List.getElem?_toArray, List.getElem?_cons_succ, List.getElem?_cons_zero]; rfl)
    case hst16 => kernel_rfl
    case hft16 => kernel_rfl
    case hrt16 => kernel_rfl
    case hQt16 => exact fun _ _ _ h => h
    case hSt16 => assumption
    case hyt16 =>
      refine Or.inl ⟨by rfl, ?_⟩
      intro w hSw
      (try dsimp only at hSw)
      go_simp
      all_goals (with_reducible rfl)
    (try simp only [Act.put, List.setIfInBounds_toArray, List.set_cons_zero, List.set_cons_succ])
    refine' wpAnyH_take (i := 17) (oi := _) (v := _) ?hit17 ?hst17 ?hft17 ?hrt17 ?hQt17 ?hyt17 ?hSt17 ?_
    case hit17 => (simp only [List.getElem?_toArray, List.getElem?_cons_succ, List.getElem?_cons_zero]; rfl)
    case hst17 => kernel_rfl
    case hft17 => kernel_rfl
    case hrt17 => kernel_rfl
    case hQt17 => exact fun _ _ _ h => h
    case hSt17 => assumption
    case hyt17 =>
      refine Or.inl ⟨by rfl, ?_⟩
      intro w hSw
      (try dsimp only at hSw)
      go_simp
      all_goals (with_reducible rfl)
    (try simp only [Act.put, List.setIfInBounds_toArray, List.set_cons_zero, List.set_cons_succ])
    refine' wpAnyH_take (i := 18) (oi := _) (v := undef) ?hit18 ?hst18 ?hft18 ?hrt18 ?hQt18 ?hyt18 ?hSt18 ?_
    case hit18 => (simp only [List.getElem?_toArray, List.getElem?_cons_succ, List.getElem?_cons_zero]; rfl)
    case hst18 => kernel_rfl
    case hft18 => kernel_rfl
    case hrt18 => kernel_rfl
    case hQt18 => exact fun _ _ _ h => h
    case hSt18 => assumption
    case hyt18 => exact Or.inr ⟨by rfl, rfl⟩
    (try simp only [Act.put, List.setIfInBounds_toArray, List.set_cons_zero, List.set_cons_succ])
    refine' wpAnyH_take (i := 19) (oi := _) (v := undef) ?hit19 ?hst19 ?hft19 ?hrt19 ?hQt19 ?hyt19 ?hSt19 ?_
    case hit19 => (simp only [List.getElem?_toArray, List.getElem?_cons_succ, List.getElem?_cons_zero]; rfl)
    case hst19 => kernel_rfl
    case hft19 => kernel_rfl
    case hrt19 => kernel_rfl
    case hQt19 => exact fun _ _ _ h => h
    case hSt19 => assumption
    case hyt19 => exact Or.inr ⟨by rfl, rfl⟩
    (try simp only [Act.put, List.setIfInBounds_toArray, List.set_cons_zero, List.set_cons_succ])
    refine' wpAnyH_take (i := 20) (oi := _) (v := undef) ?hit20 ?hst20 ?hft20 ?hrt20 ?hQt20 ?hyt20 ?hSt20 ?_
    case hit20 => (simp only [List.getElem?_toArray, List.getElem?_cons_succ, List.getElem?_cons_zero]; rfl)
    case hst20 => kernel_rfl
    case hft20 => kernel_rfl
    case hrt20 => kernel_rfl
    case hQt20 => exact fun _ _ _ h => h
    case hSt20 => assumption
    case hyt20 => exact Or.inr ⟨by rfl, rfl⟩
    (try simp only [Act.put, List.setIfInBounds_toArray, List.set_cons_zero, List.set_cons_succ])
    refine' wpAnyH_take (i := 21) (oi := _) (v := undef) ?hit21 ?hst21 ?hft21 ?hrt21 ?hQt21 ?hyt21 ?hSt21 ?_
    case hit21 => (simp only [List.getElem?_toArray, List.getElem?_cons_succ, List.getElem?_cons_zero]; rfl)
    case hst21 => kernel_rfl
    case hft21 => kernel_rfl
    case hrt21 => kernel_rfl
    case hQt21 => exact fun _ _ _ h => h
    case hSt21 => assumption
    case hyt21 => exact Or.inr ⟨by rfl, rfl⟩
    (try simp only [Act.put, List.setIfInBounds_toArray, List.set_cons_zero, List.set_cons_succ])
    refine' wpAnyH_take (i := 22) (oi := _) (v := undef) ?hit22 ?hst22 ?hft22 ?hrt22 ?hQt22 ?hyt22 ?hSt22 ?_
    case hit22 => (simp only [List.getElem?_toArray, List.getElem?_cons_succ, List.getElem?_cons_zero]; rfl)
    case hst22 => kernel_rfl
    case hft22 => kernel_rfl
    case hrt22 => kernel_rfl
    case hQt22 => exact fun _ _ _ h => h
    case hSt22 => assumption
    case hyt22 => exact Or.inr ⟨by rfl, rfl⟩
    (try simp only [Act.put, List.setIfInBounds_toArray, List.set_cons_zero, List.set_cons_succ])
    refine' wpAnyH_take (i := 23) (oi := _) (v := undef) ?hit23 ?hst23 ?hft23 ?hrt23 ?hQt23 ?hyt23 ?hSt23 ?_
    case hit23 => (simp only [List.getElem?_toArray, List.getElem?_cons_succ, List.getElem?_cons_zero]; rfl)
    case hst23 => kernel_rfl
    case hft23 => kernel_rfl
    case hrt23 => kernel_rfl
    case hQt23 => exact fun _ _ _ h => h
    case hSt23 => assumption
    case hyt23 => exact Or.inr ⟨by rfl, rfl⟩
    (try simp only [Act.put, List.setIfInBounds_toArray, List.set_cons_zero, List.set_cons_succ])
    refine' wpAnyH_take (i := 24) (oi := _) (v := undef) ?hit24 ?hst24 ?hft24 ?hrt24 ?hQt24 ?hyt24 ?hSt24 ?_
    case hit24 => (simp only [List.getElem?_toArray, List.getElem?_cons_succ, List.getElem?_cons_zero]; rfl)
    case hst24 => kernel_rfl
    case hft24 => kernel_rfl
    case hrt24 => kernel_rfl
    case hQt24 => exact fun _ _ _ h => h
    case hSt24 => assumption
    case hyt24 => exact Or.inr ⟨by rfl, rfl⟩
    (try simp only [Act.put, List.setIfInBounds_toArray, List.set_cons_zero, List.set_cons_succ])
    refine' wpAnyH_take (i := 25) (oi := _) (v := undef) ?hit25 ?hst25 ?hft25 ?hrt25 ?hQt25 ?hyt25 ?hSt25 ?_
    case hit25 => (simp only [List.getElem?_toArray, List.getElem?_cons_succ, List.getElem?_cons_zero]; rfl)
    case hst25 => kernel_rfl
    case hft25 => kernel_rfl
    case hrt25 => kernel_rfl
    case hQt25 => exact fun _ _ _ h => h
    case hSt25 => assumption
    case hyt25 => exact Or.inr ⟨by rfl, rfl⟩
    (try simp only [Act.put, List.setIfInBounds_toArray, List.set_cons_zero, List.set_cons_succ])
    refine' wpAnyH_take (i := 26) (oi := _) (v := undef) ?hit26 ?hst26 ?hft26 ?hrt26 ?hQt26 ?hyt26 ?hSt26 ?_
    case hit26 => (simp only [List.getElem?_toArray, List.getElem?_cons_succ, List.getElem?_cons_zero]; rfl)
    case hst26 => kernel_rfl
    case hft26 => kernel_rfl
    case hrt26 => kernel_rfl
    case hQt26 => exact fun _ _ _ h => h
    case hSt26 => assumption
    case hyt26 => exact Or.inr ⟨by rfl, rfl⟩
    (try simp only [Act.put, List.setIfInBounds_toArray, List.set_cons_zero, List.set_cons_succ])
    refine' wpAnyH_take (i := 27) (oi := _) (v := undef) ?hit27 ?hst27 ?hft27 ?hrt27 ?hQt27 ?hyt27 ?hSt27 ?_
    case hit27 => (simp only [List.getElem?_toArray, List.getElem?_cons_succ, List.getElem?_cons_zero]; rfl)
    case hst27 => kernel_rfl
    case hft27 => kernel_rfl
    case hrt27 => kernel_rfl
    case hQt27 => exact fun _ _ _ h => h
    case hSt27 => assumption
    case hyt27 => exact Or.inr ⟨by rfl, rfl⟩
    (try simp only [Act.put, List.setIfInBounds_toArray, List.set_cons_zero, List.set_cons_succ])
    refine' wpAnyH_take (i := 28) (oi := _) (v := undef) ?hit28 ?hst28 ?hft28 ?hrt28 ?hQt28 ?hyt28 ?hSt28 ?_
    case hit28 => (simp only [List.getElem?_toArray, List.getElem?_cons_succ, List.getElem?_cons_zero]; rfl)
    case hst28 => kernel_rfl
    case hft28 => kernel_rfl
    case hrt28 => kernel_rfl
    case hQt28 => exact fun _ _ _ h => h
    case hSt28 => assumption
    case hyt28 => exact Or.inr ⟨by rfl, rfl⟩
    (try simp only [Act.put, List.setIfInBounds_toArray, List.set_cons_zero, List.set_cons_succ])
    refine' wpAnyH_take (i := 29) (oi := _) (v := undef) ?hit29 ?hst29 ?hft29 ?hrt29 ?hQt29 ?hyt29 ?hSt29 ?_
    case hit29 => (simp only [List.getElem?_toArray, List.getElem?_cons_succ, List.getElem?_cons_zero]; rfl)
    case hst29 => kernel_rfl
    case hft29 => kernel_rfl
    case hrt29 => kernel_rfl
    case hQt29 => exact fun _ _ _ h => h
    case hSt29 => assumption
    case hyt29 => exact Or.inr ⟨by rfl, rfl⟩
    (try simp only [Act.put, List.setIfInBounds_toArray, List.set_cons_zero, List.set_cons_succ])
    refine' wpAnyH_take (i := 30) (oi := _) (v := undef) ?hit30 ?hst30 ?hft30 ?hrt30 ?hQt30 ?hyt30 ?hSt30 ?_
    case hit30 => (simp only [List.getElem?_toArray, List.getElem?_cons_succ, List.getElem?_cons_zero]; rfl)
    case hst30 => kernel_rfl
    case hft30 => kernel_rfl
    case hrt30 => kernel_rfl
    case hQt30 => exact fun _ _ _ h => h
    case hSt30 => assumption
    case hyt30 => exact Or.inr ⟨by rfl, rfl⟩
    (try simp only [Act.put, List.setIfInBounds_toArray, List.set_cons_zero, List.set_cons_succ])
    refine' wpAnyH_take (i := 31) (oi := _) (v := undef) ?hit31 ?hst31 ?hft31 ?hrt31 ?hQt31 ?hyt31 ?hSt31 ?_
    case hit31 => (simp only [List.getElem?_toArray, List.getElem?_cons_succ, List.getElem?_cons_zero]; rfl)
    case hst31 => kernel_rfl
    case hft31 => kernel_rfl
    case hrt31 => kernel_rfl
    case hQt31 => exact fun _ _ _ h => h
    case hSt31 => assumption
    case hyt31 => exact Or.inr ⟨by rfl, rfl⟩
    (try simp only [Act.put, List.setIfInBounds_toArray, List.set_cons_zero, List.set_cons_succ])
    refine' wpAnyH_take (i := 32) (oi := _) (v := undef) ?hit32 ?hst32 ?hft32 ?hrt32 ?hQt32 ?hyt32 ?hSt32 ?_
    case hit32 => (simp only [List.getElem?_toArray, List.getElem?_cons_succ, List.getElem?_cons_zero]; rfl)
    case hst32 => kernel_rfl
    case hft32 => kernel_rfl
    case hrt32 => kernel_rfl
    case hQt32 => exact fun _ _ _ h => h
    case hSt32 => assumption
    case hyt32 => exact Or.inr ⟨by rfl, rfl⟩
    (try simp only [Act.put, List.setIfInBounds_toArray, List.set_cons_zero, List.set_cons_succ])
    refine' wpAnyH_take (i := 33) (oi := _) (v := _) ?hit33 ?hst33 ?hft33 ?hrt33 ?hQt33 ?hyt33 ?hSt33 ?_
    case hit33 => (simp only [List.getElem?_toArray, List.getElem?_cons_succ, List.getElem?_cons_zero]; rfl)
    case hst33 => kernel_rfl
    case hft33 => kernel_rfl
    case hrt33 => kernel_rfl
    case hQt33 => exact fun _ _ _ h => h
    case hSt33 => assumption
    case hyt33 =>
      refine Or.inl ⟨by rfl, ?_⟩
      intro w hSw
      (try dsimp only at hSw)
      go_simp
      all_goals (with_reducible rfl)
    (try simp only [Act.put, List.setIfInBounds_toArray, List.set_cons_zero, List.set_cons_succ])
    refine' wpAnyH_take (i := 34) (oi := _) (v := _) ?hit34 ?hst34 ?hft34 ?hrt34 ?hQt34 ?hyt34 ?hSt34 ?_
    case hit34 => (simp only [List.getElem?_toArray, List.getElem?_cons_succ, List.getElem?_cons_zero]; rfl)
    case hst34 => kernel_rfl
    case hft34 => kernel_rfl
    case hrt34 => kernel_rfl
    case hQt34 => exact fun _ _ _ h => h
    case hSt34 => assumption
    case hyt34 =>
      refine Or.inl ⟨by rfl, ?_⟩
      intro w hSw
      (try dsimp only at hSw)
      go_simp
      all_goals (with_reducible rfl)
    (try simp only [Act.put, List.setIfInBounds_toArray, List.set_cons_zero, List.set_cons_succ])
    refine' wpAnyH_take (i := 35) (oi := _) (v := _) ?hit35 ?hst35 ?hft35 ?hrt35 ?hQt35 ?hyt35 ?hSt35 ?_
    case hit35 => (simp only [List.getElem?_toArray, List.getElem?_cons_succ, List.getElem?_cons_zero]; rfl)
    case hst35 => kernel_rfl
    case hft35 => kernel_rfl
    case hrt35 => kernel_rfl
    case hQt35 => exact fun _ _ _ h => h
    case hSt35 => assumption
    case hyt35 =>
      refine Or.inl ⟨by rfl, ?_⟩
      intro w hSw
      (try dsimp only at hSw)
      go_simp
      all_goals (with_reducible rfl)
    (try simp only [Act.put, List.setIfInBounds_toArray, List.set_cons_zero, List.set_cons_succ])
    refine wpAnyH_ready (rs := [36]) (by kernel_rfl) (by simp) ?_
    refine' AllReadyH.cons (o := _) ?hir36 (fun K hK => ?_) AllReadyH.nil
    case hir36 => (simp only [List.getElem?_toArray, List.getElem?_cons_succ, List.getElem?_cons_zero]; rfl)
    go_simp
    refine (awake10_any H V0).mono ?_
    rintro e w7 ⟨rfl, hb7⟩
    refine hK.out _ _ ?_ (fun hHeld => ?_)
    · exact HB0.out.trans (hb7.mono HB0.out.size)
    clear hK K
    (try simp only [Act.put, List.setIfInBounds_toArray, List.set_cons_zero, List.set_cons_succ])
    refine' wpAnyH_take (i := 37) (oi := _) (v := _) ?hit37 ?hst37 ?hft37 ?hrt37 ?hQt37 ?hyt37 ?hSt37 ?_
    case hit37 => (simp only [List.getElem?_toArray, List.getElem?_cons_succ, List.getElem?_cons_zero]; rfl)
    case hst37 => kernel_rfl
    case hft37 => kernel_rfl
    case hrt37 => kernel_rfl
    case hQt37 => exact fun _ _ _ h => h
    case hSt37 => assumption
    case hyt37 =>
      refine Or.inl ⟨by rfl, ?_⟩
      intro w hSw
      (try dsimp only at hSw)
      go_simp
      all_goals (with_reducible rfl)
    (try simp only [Act.put, List.setIfInBounds_toArray, List.set_cons_zero, List.set_cons_succ])
    refine' wpAnyH_take (i := 38) (oi := _) (v := _) ?hit38 ?hst38 ?hft38 ?hrt38 ?hQt38 ?hyt38 ?hSt38 ?_
    case hit38 => (simp only [List.getElem?_toArray, List.getElem?_cons_succ, List.getElem?_cons_zero]; rfl)
    case hst38 => kernel_rfl
    case hft38 => kernel_rfl
    case hrt38 => kernel_rfl
    case hQt38 => exact fun _ _ _ h => h
    case hSt38 => assumption
    case hyt38 =>
      refine Or.inl ⟨by rfl, ?_⟩
      intro w hSw
      (try dsimp only at hSw)
      go_simp
      all_goals (with_reducible rfl)
    (try simp only [Act.put, List.setIfInBounds_toArray, List.set_cons_zero, List.set_cons_succ])
    refine wpAnyH_done (by kernel_rfl) ?_ _
    go_wp2_with fail
    go_ret
    exact ⟨rfl, HB5.out.trans ((HB0.out.trans (hb7.mono HB0.out.size)).mono HB5.out.size)⟩

set_option maxHeartbeats 4000000 in
theorem dclock_walk (H : DateOk) (HP : PutOk) (A : Option Addr) (n c : Nat) (l : List UInt8) (w : World) (ht : Tab w) (hr : Reads w w.heap.size 1 A n (Lib.byteCells l)) (hc : n ≤ c) :
    Calls Tryd.prog 5 #[.slice A n c] w fun e w' => e = .returned (.bool true) ∧ Below w.heap.size w w' := by
  have HT := Lib.hid ht
  clear ht
  have hl : l.length = n := by have := hr.1; simpa [Lib.byteCells_length] using this
  have hfin : ∀ W, Below w.heap.size w W → Calls Tryd.prog 7 #[] W fun e w' => e = .returned (.bool true) ∧ Below w.heap.size w w' :=
    fun W hW => (awake10_any H W).mono (by rintro e w4 ⟨rfl, hb4⟩; exact ⟨rfl, hW.trans (hb4.mono hW.size)⟩)
  cases ha : dateR l with
  | some v =>
    obtain rfl : n = 19 := by rw [← hl]; exact date_len ha
    exact dclock_at H HP A c l v w HT.out hr hc ha
  | none =>
    have HA := Lib.hid ha
    clear ha hl
    by_cases hn : 100 < n
    · go_enter Tryd.func5, Tryd.ntmps5
      go_wp2_with fail
      refine (hfin _ (Below.refl _ _)).mono ?_
      rintro e w4 ⟨rfl, hb4⟩
      go_wp2
      go_ret
      exact ⟨rfl, hb4⟩
    · go_enter Tryd.func5, Tryd.ntmps5
      go_wp2_with fail
      refine (H.get A n c l w hr (by omega) hc).mono ?_
      rintro e w1 ⟨h1, hb1⟩
      rw [HA.out] at h1
      have h1' : e = .returned (.tuple #[.int .i64 0, .bool false]) := h1
      subst h1'
      clear h1
      go_wp2_with fail
      refine (hfin _ hb1).mono ?_
      rintro e w4 ⟨rfl, hb4⟩
      go_wp2
      go_ret
      exact ⟨rfl, hb4⟩
end Go.Proofs.YtnbmgcjlgjcejaaDoor
