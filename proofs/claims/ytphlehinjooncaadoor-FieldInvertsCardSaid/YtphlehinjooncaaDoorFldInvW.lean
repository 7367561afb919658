/-
  The walk of the law FieldInverts. Condition: the limbs of the prime, and of turn, stand in their variables.
-/
import Derived.Test.YtphlehinjooncaaDoorFldTwo
import Derived.Test.YtphlehinjooncaaDoorFldLawsW
import Derived.Test.YtphlehinjooncaaDoorFldRefRoot
set_option linter.unusedVariables false
set_option linter.unusedSimpArgs false
namespace Go.Proofs.YtphlehinjooncaaDoor
open Go Go.Proofs Go.RowKit F5

set_option maxHeartbeats 32000000 in
set_option maxRecDepth 100000 in
theorem inverts_walk (va : Nat) (hva : va < 2 ^ 256) (w : World) (hP : PrimeAt w) (hT : TurnAt w) :
    Calls Tryd.prog 5 #[.agg (bytesA (fbytes va))] w fun e w' => e = .returned (.bool true) ∧ Below w.heap.size w w' := by
  have HP := Lib.hid hP
  have HT := Lib.hid hT
  obtain ⟨z, hz⟩ : ∃ z, Hid (z = limF 0) := ⟨_, Lib.hid rfl⟩
  have hz0 : ∀ W, (zeroValue 35).run Tryd.prog W = .ok (.agg z) W := by
    rw [hz.out, ← zero16]; exact (zero_of_info (n := 16) (by kernel_rfl)).1
  have ou := Lib.hid (limA_ok (uOf va))
  have of := Lib.hid (limF_ok (va % P) z hz.out)
  have CT : Hid (∀ W, PrimeAt W → Calls Tryd.prog 16 #[.agg (bytesA (fbytes va))] W fun e w' => e = .returned (.tuple #[.agg (limA (uOf va)), .agg (limF (va % P)), .bool (decide (va < P))]) ∧ Below W.heap.size W w') := Lib.hid fun W hW => two_any va hva W hW
  obtain ⟨b0, hb0⟩ : ∃ b, Hid (b = decide (va < P)) := ⟨_, Lib.hid rfl⟩
  rw [← hb0.out] at CT
  obtain ⟨ca, hca⟩ : ∃ x, Hid (x = bytesA (fbytes va)) := ⟨_, Lib.hid rfl⟩
  have hia : Hid ((Tryd.prog.info? 41).map (·.size) = some ca.size) := by rw [hca.out]; exact Lib.hid (fbytes_info va)
  rw [← hca.out] at CT ⊢
  obtain ⟨cx, hcx⟩ : ∃ x, Hid (x = limA (uOf va)) := ⟨_, Lib.hid rfl⟩
  obtain ⟨cu, hcu⟩ : ∃ x, Hid (x = limF (va % P)) := ⟨_, Lib.hid rfl⟩
  rw [← hcx.out] at ou CT
  rw [← hcu.out] at of CT
  have X0 := Lib.hid (Blk.new w 41 ca)
  have HB := Lib.hid ((Below.refl w.heap.size w).alloc (Nat.le_refl _) (.cells ca 41))
  clear hP hT hva
  go_enter Tryd.func5, Tryd.ntmps5
  go_upto_region 1 with fail
  generalize w.alloc (.cells ca 41) = W at *
  go_upto_region 2 with (first | (refine wpList_load_row rfl 41 (.tmp 1) rfl w.heap.size rfl 41 ca (0, 0) _ X0.out Tryd.underlying41 rfl hia.out ?_))
  refine (CT.out _ (HP.out.old HB.out)).mono ?_
  rintro e w1 ⟨rfl, hbb⟩
  obtain ⟨r1, r2, r3, r4⟩ := two_row w1 z cx cu
  have r5 : Blk ((((w1.alloc (.cells #[.int .u64 0, .int .u64 0, .int .u64 0, .int .u64 0] 28)).alloc (.cells z 35)).setRow w1.heap.size cx).setRow (w1.heap.size + 1) cu) (w1.heap.size + 1) 35 cu := r2.row cu
  have hbc := hbb.trans (r4.mono hbb.size)
  have E0 := Lib.hid r3
  have F0 := Lib.hid r5
  have HB := Lib.hid (HB.out.trans (hbc.mono HB.out.size))
  have R1 := Lib.hid r1
  have R2 := Lib.hid r2
  clear hbb r1 r2 r3 r4 r5 hbc X0
  go_upto_region 2 with (first | (refine wpList_store_row rfl 28 (.tmp 3) (.tmp 14) rfl w1.heap.size cx rfl rfl 28 _ R1.out ou.out.1 ou.out.2.2 ou.out.2.1 ?_) |
    (refine wpList_store_row rfl 35 (.tmp 4) (.tmp 15) rfl (w1.heap.size + 1) cu rfl rfl 35 z R2.out of.out.1 of.out.2.2 of.out.2.1 ?_))
  clear R1 R2
  generalize (((w1.alloc (.cells #[.int .u64 0, .int .u64 0, .int .u64 0, .int .u64 0] 28)).alloc (.cells z 35)).setRow w1.heap.size cx).setRow (w1.heap.size + 1) cu = W0 at *
  generalize w1.heap.size + 1 = g4 at *
  generalize w1.heap.size = g3 at *
  cases hc0 : b0
  · clear hc0
    go_wp2_with fail
    refine (awake_any _ (HP.out.old HB.out)).mono ?_
    rintro e w3 ⟨rfl, hbb⟩
    have hbe := Lib.hid (HB.out.trans (hbb.mono HB.out.size))
    clear hbb
    go_wp2
    go_ret
    exact ⟨rfl, hbe.out⟩
  have hva : va < P := by have := hb0.out; rw [hc0] at this; simpa using this.symm
  have eA : Hid (Blk W0 g3 28 (limA va)) := by have := E0.out; rw [hcx.out, uOf, if_pos hva] at this; exact Lib.hid this
  have fA : Hid (Blk W0 g4 35 (limF va)) := by have := F0.out; rw [hcu.out, Nat.mod_eq_of_lt hva] at this; exact Lib.hid this
  have HVA := Lib.hid hva
  have HPW : Hid (PrimeAt W0) := Lib.hid (HP.out.old HB.out)
  have HTW : Hid (TurnAt W0) := Lib.hid (HT.out.old HB.out)
  have oa := Lib.hid (limA_ok2 va)
  have fa := Lib.hid (limF0_ok va)
  clear hc0 hva hb0 E0 F0 hcx hcu CT ou of hia hca
  obtain ⟨y, hy⟩ := named (pw va (P - 2))
  obtain ⟨r, hr⟩ := named (root va)
  obtain ⟨b, hb⟩ : ∃ b, Hid (b = decide (hasRoot va)) := ⟨_, Lib.hid rfl⟩
  have hyl : Hid (y < P) := Lib.hid (by rw [hy.out]; exact pw_lt _ _)
  have hrl : Hid (r < P) := Lib.hid (by rw [hr.out]; exact root_lt _)
  have CI : Hid (∀ V, PrimeAt V → Calls Tryd.prog 23 #[.agg (limA va)] V fun e w' => e = .returned (.agg (limA y)) ∧ Below V.heap.size V w') := Lib.hid fun V hV => by
    rw [hy.out]; exact inv_e va V HVA.out hV
  have CR : Hid (∀ V, PrimeAt V → TurnAt V → Calls Tryd.prog 24 #[.agg (limA va)] V fun e w' => e = .returned (.tuple #[.agg (limA r), .bool b]) ∧ Below V.heap.size V w') := Lib.hid fun V hV hT => by
    rw [hr.out, hb.out]; exact root_e va V HVA.out hV hT
  have CRI : Hid (∀ V, Calls Tryd.prog 26 #[.agg (limF va)] V fun e w' => e = .returned (.agg (limF y)) ∧ Below V.heap.size V w') := Lib.hid fun V => by
    rw [hy.out]; exact refInv_any va V HVA.out
  have CRR : Hid (∀ V, Calls Tryd.prog 25 #[.agg (limF va)] V fun e w' => e = .returned (.tuple #[.agg (limF r), .bool b]) ∧ Below V.heap.size V w') := Lib.hid fun V => by
    rw [hr.out, hb.out]; exact refRoot_any va V HVA.out
  have CS1 : Hid (∀ V, Calls Tryd.prog 11 #[.agg (limA y), .agg (limF y)] V fun e w' => e = .returned (.bool true) ∧ Below V.heap.size V w') := Lib.hid fun V => same_true y (Nat.lt_trans hyl.out (by decide)) V
  have CS2 : Hid (∀ V, Calls Tryd.prog 11 #[.agg (limA r), .agg (limF r)] V fun e w' => e = .returned (.bool true) ∧ Below V.heap.size V w') := Lib.hid fun V => same_true r (Nat.lt_trans hrl.out (by decide)) V
  have CO : Hid (∀ V, Calls Tryd.prog 15 #[.agg (limA r)] V fun e w' => e = .returned (.bool false) ∧ Below V.heap.size V w') := Lib.hid fun V => by
    have := odd_e r V
    rwa [show decide (r % 2 = 1) = false by rw [hr.out, root_even]; rfl] at this
  obtain ⟨sq, hsq⟩ := named (r * r % P)
  have CM : Hid (∀ V, PrimeAt V → Calls Tryd.prog 21 #[.agg (limA r), .agg (limA r)] V fun e w' => e = .returned (.agg (limA sq)) ∧ Below V.heap.size V w') := Lib.hid fun V hV => by
    rw [hsq.out]; exact mul_e r r hrl.out hrl.out V hV
  have CSQ : Hid (b = true → ∀ V, Calls Tryd.prog 13 #[.agg (limA sq), .agg (limA va)] V fun e w' => e = .returned (.bool true) ∧ Below V.heap.size V w') := Lib.hid fun hbt V => by
    have hh : hasRoot va := by have := hb.out; rw [hbt] at this; simpa using this.symm
    exact same_t sq va (by rw [hsq.out]; exact Nat.mod_lt _ P_pos) (by rw [hsq.out, hr.out]; exact root_sq hh) V
  obtain ⟨xy, hxy⟩ := named (va * y % P)
  have hxyl : Hid (xy < P) := Lib.hid (by rw [hxy.out]; exact Nat.mod_lt _ P_pos)
  have CXY : Hid (∀ V, PrimeAt V → Calls Tryd.prog 21 #[.agg (limA va), .agg (limA y)] V fun e w' => e = .returned (.agg (limA xy)) ∧ Below V.heap.size V w') := Lib.hid fun V hV => by
    rw [hxy.out]; exact mul_e va y HVA.out hyl.out V hV
  have C1 : Hid (∀ V, Calls Tryd.prog 10 #[.int .u64 1] V fun e w' => e = .returned (.agg (limA 1)) ∧ Below V.heap.size V w') := Lib.hid fun V => of_any 1 (by decide) V
  obtain ⟨b1, hb1⟩ : ∃ b, Hid (b = decide (xy = 1)) := ⟨_, Lib.hid rfl⟩
  obtain ⟨b2, hb2⟩ : ∃ b, Hid (b = decide (va = 0)) := ⟨_, Lib.hid rfl⟩
  have CX1 : Hid (∀ V, Calls Tryd.prog 13 #[.agg (limA xy), .agg (limA 1)] V fun e w' => e = .returned (.bool b1) ∧ Below V.heap.size V w') := Lib.hid fun V => by
    rw [hb1.out]; exact same_e xy 1 hxyl.out (by decide) V
  have CX2 : Hid (∀ V, Calls Tryd.prog 13 #[.agg (limA va), .agg #[.int .u64 0, .int .u64 0, .int .u64 0, .int .u64 0]] V fun e w' => e = .returned (.bool b2) ∧ Below V.heap.size V w') := Lib.hid fun V => by
    rw [hb2.out]; exact same_e va 0 HVA.out P_pos V
  have hbb12 : Hid ((b1 = true ∧ b2 = false) ∨ (b1 = false ∧ b2 = true)) := Lib.hid (by
    rw [hb1.out, hb2.out]
    by_cases h0 : va = 0
    · right
      have : xy = 0 := by rw [hxy.out, h0, Nat.zero_mul, Nat.zero_mod]
      rw [this, h0]; exact ⟨rfl, rfl⟩
    · left
      have : xy = 1 := by rw [hxy.out, hy.out]; exact inv_mul h0 HVA.out
      rw [this]; exact ⟨rfl, by simpa using h0⟩)
  have oy := Lib.hid (limA_ok y)
  have or := Lib.hid (limA_ok r)
  have fr := Lib.hid (limF_ok r z hz.out)
  clear hb hb1 hb2 hr hsq hxy hy
  go_upto_region 5 with (first | (refine wpList_load_row rfl 28 (.tmp 3) rfl g3 rfl 28 (limA va) (0, 0) _ eA.out Tryd.underlying28 rfl oa.out.1 ?_))
  refine (CI.out _ HPW.out).mono ?_
  rintro e w4 ⟨rfl, hbb⟩
  have eA := Lib.hid ((eA.out.old hbb).alloc (.cells (limA y) 28))
  have fA := Lib.hid ((fA.out.old hbb).alloc (.cells (limA y) 28))
  have HPW := Lib.hid ((HPW.out.old hbb).old ((Below.refl _ _).alloc (Nat.le_refl _) (.cells (limA y) 28)))
  have HTW := Lib.hid ((HTW.out.old hbb).old ((Below.refl _ _).alloc (Nat.le_refl _) (.cells (limA y) 28)))
  have HB := Lib.hid ((HB.out.trans (hbb.mono HB.out.size)).alloc (HB.out.trans (hbb.mono HB.out.size)).size (.cells (limA y) 28))
  have eY := Lib.hid (Blk.new w4 28 (limA y))
  clear hbb
  go_upto_region 5 with (first | (refine wpList_store_row rfl 28 (.tmp 6) (.tmp 21) rfl w4.heap.size (limA y) rfl rfl 28 _ (heap_alloc_new w4 _) oy.out.1 oy.out.2.2 oy.out.2.1 ?_; rw [setRow_alloc1]))
  generalize w4.alloc (.cells (limA y) 28) = W4 at *
  generalize w4.heap.size = g6 at *
  go_upto_region 6 with (first | (refine wpList_load_row rfl 28 (.tmp 3) rfl g3 rfl 28 (limA va) (0, 0) _ eA.out Tryd.underlying28 rfl oa.out.1 ?_))
  refine (CR.out _ HPW.out HTW.out).mono ?_
  rintro e w5 ⟨rfl, hbb⟩
  have eA := Lib.hid ((eA.out.old hbb).alloc (.cells (limA r) 28))
  have fA := Lib.hid ((fA.out.old hbb).alloc (.cells (limA r) 28))
  have eY := Lib.hid ((eY.out.old hbb).alloc (.cells (limA r) 28))
  have HPW := Lib.hid ((HPW.out.old hbb).old ((Below.refl _ _).alloc (Nat.le_refl _) (.cells (limA r) 28)))
  have HB := Lib.hid ((HB.out.trans (hbb.mono HB.out.size)).alloc (HB.out.trans (hbb.mono HB.out.size)).size (.cells (limA r) 28))
  have eR := Lib.hid (Blk.new w5 28 (limA r))
  clear hbb HTW
  go_upto_region 6 with (first | (refine wpList_store_row rfl 28 (.tmp 7) (.tmp 25) rfl w5.heap.size (limA r) rfl rfl 28 _ (heap_alloc_new w5 _) or.out.1 or.out.2.2 or.out.2.1 ?_; rw [setRow_alloc1]))
  generalize w5.alloc (.cells (limA r) 28) = W5 at *
  generalize w5.heap.size = g7 at *
  go_upto_region 7 with (first | (refine wpList_load_row rfl 35 (.tmp 4) rfl g4 rfl 35 (limF va) (0, 0) _ fA.out Tryd.underlying35 rfl fa.out.1 ?_))
  refine (CRR.out _).mono ?_
  rintro e w6 ⟨rfl, hbb⟩
  have eA := Lib.hid ((eA.out.old hbb).alloc (.cells (limF r) 35))
  have fA := Lib.hid ((fA.out.old hbb).alloc (.cells (limF r) 35))
  have eY := Lib.hid ((eY.out.old hbb).alloc (.cells (limF r) 35))
  have eR := Lib.hid ((eR.out.old hbb).alloc (.cells (limF r) 35))
  have HPW := Lib.hid ((HPW.out.old hbb).old ((Below.refl _ _).alloc (Nat.le_refl _) (.cells (limF r) 35)))
  have HB := Lib.hid ((HB.out.trans (hbb.mono HB.out.size)).alloc (HB.out.trans (hbb.mono HB.out.size)).size (.cells (limF r) 35))
  have fR := Lib.hid (Blk.new w6 35 (limF r))
  clear hbb
  go_upto_region 7 with (first | (refine wpList_store_row rfl 35 (.tmp 9) (.tmp 30) rfl w6.heap.size (limF r) rfl rfl 35 _ (heap_alloc_new w6 _) fr.out.1 fr.out.2.2 fr.out.2.1 ?_; rw [setRow_alloc1]))
  generalize w6.alloc (.cells (limF r) 35) = W6 at *
  generalize w6.heap.size = g9 at *
  clear hz0
  (try simp only [Act.put, List.setIfInBounds_toArray, List.set_cons_zero, List.set_cons_succ])
  go_cut [8, 10, 62] (fun v8 v10 v wx => v = .bool false ∧ Below W6.heap.size W6 wx)
  case first =>
    cases hbv : b
    · clear hbv CSQ
      refine wp_region_held_drew (S := fun V => Below W6.heap.size W6 V) (by kernel_rfl) (Below.refl _ _).drew (fun hHeld => ?_)
      have HBW6 := Lib.hid ((Below.refl W6.heap.size W6).drew)
      generalize W6.drew = VW6 at *
      refine' wpAnyH_take (i := 0) (oi := _) (v := .agg (limA y)) ?hit1 ?hst1 ?hft1 ?hrt1 ?hQt1 ?hyt1 ?hSt1 ?_
      case hit1 => (simp only [List.getElem?_toArray, List.getElem?_cons_succ, List.getElem?_cons_zero]; rfl)
      case hst1 => kernel_rfl
      case hft1 => kernel_rfl
      case hrt1 => kernel_rfl
      case hQt1 => exact fun _ _ _ h => h
      case hSt1 => assumption
      case hyt1 =>
        refine Or.inl ⟨by rfl, ?_⟩
        intro W hS
        exact quiet_load_row 28 (.tmp 6) _ rfl 28 (limA y) _ (eY.out.old hS) Tryd.underlying28 rfl oy.out.1 rfl
      (try simp only [Act.put, List.setIfInBounds_toArray, List.set_cons_zero, List.set_cons_succ])
      refine' wpAnyH_take (i := 1) (oi := _) (v := .agg (limF va)) ?hit2 ?hst2 ?hft2 ?hrt2 ?hQt2 ?hyt2 ?hSt2 ?_
      case hit2 => (simp only [List.getElem?_toArray, List.getElem?_cons_succ, List.getElem?_cons_zero]; rfl)
      case hst2 => kernel_rfl
      case hft2 => kernel_rfl
      case hrt2 => kernel_rfl
      case hQt2 => exact fun _ _ _ h => h
      case hSt2 => assumption
      case hyt2 =>
        refine Or.inl ⟨by rfl, ?_⟩
        intro W hS
        exact quiet_load_row 35 (.tmp 4) _ rfl 35 (limF va) _ (fA.out.old hS) Tryd.underlying35 rfl fa.out.1 rfl
      (try simp only [Act.put, List.setIfInBounds_toArray, List.set_cons_zero, List.set_cons_succ])
      refine wpAnyH_ready (rs := [2]) (by kernel_rfl) (by simp) ?_
      refine' (AllReadyH.cons (o := _) ?hir3_2 (fun K hK => ?br3_2) AllReadyH.nil)
      case hir3_2 => (simp only [List.getElem?_toArray, List.getElem?_cons_succ, List.getElem?_cons_zero]; rfl)
      case br3_2 =>
        go_simp
        refine (CRI.out _).mono ?_
        rintro e w4 ⟨rfl, hb4⟩
        have H4 := Lib.hid (HBW6.out.trans (hb4.mono HBW6.out.size))
        clear hb4
        go_wp2_with fail
        refine hK.out _ _ ?_ (fun hHeld => ?_)
        exact H4.out
        clear hK K
        (try simp only [Act.put, List.setIfInBounds_toArray, List.set_cons_zero, List.set_cons_succ])
        refine wpAnyH_ready (rs := [3]) (by kernel_rfl) (by simp) ?_
        refine' (AllReadyH.cons (o := _) ?hir5_3 (fun K hK => ?br5_3) AllReadyH.nil)
        case hir5_3 => (simp only [List.getElem?_toArray, List.getElem?_cons_succ, List.getElem?_cons_zero]; rfl)
        case br5_3 =>
          go_simp
          refine (CS1.out _).mono ?_
          rintro e w6 ⟨rfl, hb6⟩
          have H6 := Lib.hid (H4.out.trans (hb6.mono H4.out.size))
          clear hb6
          go_wp2_with fail
          refine hK.out _ _ ?_ (fun hHeld => ?_)
          exact H6.out
          clear hK K
          (try simp only [Act.put, List.setIfInBounds_toArray, List.set_cons_zero, List.set_cons_succ])
          refine' wpAnyH_take (i := 4) (oi := _) (v := _) ?hit7 ?hst7 ?hft7 ?hrt7 ?hQt7 ?hyt7 ?hSt7 ?_
          case hit7 => (simp only [List.getElem?_toArray, List.getElem?_cons_succ, List.getElem?_cons_zero]; rfl)
          case hst7 => kernel_rfl
          case hft7 => kernel_rfl
          case hrt7 => kernel_rfl
          case hQt7 => exact fun _ _ _ h => h
          case hSt7 => assumption
          case hyt7 =>
            refine Or.inl ⟨by rfl, ?_⟩
            intro w hSw
            (try dsimp only at hSw)
            go_simp
            all_goals (with_reducible rfl)
          (try simp only [Act.put, List.setIfInBounds_toArray, List.set_cons_zero, List.set_cons_succ])
          refine' wpAnyH_take (i := 5) (oi := _) (v := _) ?hit8 ?hst8 ?hft8 ?hrt8 ?hQt8 ?hyt8 ?hSt8 ?_
          case hit8 => (simp only [List.getElem?_toArray, List.getElem?_cons_succ, List.getElem?_cons_zero]; rfl)
          case hst8 => kernel_rfl
          case hft8 => kernel_rfl
          case hrt8 => kernel_rfl
          case hQt8 => exact fun _ _ _ h => h
          case hSt8 => assumption
          case hyt8 =>
            refine Or.inl ⟨by rfl, ?_⟩
            intro w hSw
            (try dsimp only at hSw)
            go_simp
            all_goals (with_reducible rfl)
          (try simp only [Act.put, List.setIfInBounds_toArray, List.set_cons_zero, List.set_cons_succ])
          refine' wpAnyH_take (i := 6) (oi := _) (v := _) ?hit9 ?hst9 ?hft9 ?hrt9 ?hQt9 ?hyt9 ?hSt9 ?_
          case hit9 => (simp only [List.getElem?_toArray, List.getElem?_cons_succ, List.getElem?_cons_zero]; rfl)
          case hst9 => kernel_rfl
          case hft9 => kernel_rfl
          case hrt9 => kernel_rfl
          case hQt9 => exact fun _ _ _ h => h
          case hSt9 => assumption
          case hyt9 =>
            refine Or.inl ⟨by rfl, ?_⟩
            intro w hSw
            (try dsimp only at hSw)
            go_simp
            all_goals (with_reducible rfl)
          (try simp only [Act.put, List.setIfInBounds_toArray, List.set_cons_zero, List.set_cons_succ])
          refine' wpAnyH_take (i := 7) (oi := _) (v := _) ?hit10 ?hst10 ?hft10 ?hrt10 ?hQt10 ?hyt10 ?hSt10 ?_
          case hit10 => (simp only [List.getElem?_toArray, List.getElem?_cons_succ, List.getElem?_cons_zero]; rfl)
          case hst10 => kernel_rfl
          case hft10 => kernel_rfl
          case hrt10 => kernel_rfl
          case hQt10 => exact fun _ _ _ h => h
          case hSt10 => assumption
          case hyt10 =>
            refine Or.inl ⟨by rfl, ?_⟩
            intro w hSw
            (try dsimp only at hSw)
            go_simp
            all_goals (with_reducible rfl)
          (try simp only [Act.put, List.setIfInBounds_toArray, List.set_cons_zero, List.set_cons_succ])
          refine' wpAnyH_take (i := 8) (oi := _) (v := _) ?hit11 ?hst11 ?hft11 ?hrt11 ?hQt11 ?hyt11 ?hSt11 ?_
          case hit11 => (simp only [List.getElem?_toArray, List.getElem?_cons_succ, List.getElem?_cons_zero]; rfl)
          case hst11 => kernel_rfl
          case hft11 => kernel_rfl
          case hrt11 => kernel_rfl
          case hQt11 => exact fun _ _ _ h => h
          case hSt11 => assumption
          case hyt11 =>
            refine Or.inl ⟨by rfl, ?_⟩
            intro w hSw
            (try dsimp only at hSw)
            go_simp
            all_goals (with_reducible rfl)
          (try simp only [Act.put, List.setIfInBounds_toArray, List.set_cons_zero, List.set_cons_succ])
          refine' wpAnyH_take (i := 9) (oi := _) (v := _) ?hit12 ?hst12 ?hft12 ?hrt12 ?hQt12 ?hyt12 ?hSt12 ?_
          case hit12 => (simp only [List.getElem?_toArray, List.getElem?_cons_succ, List.getElem?_cons_zero]; rfl)
          case hst12 => kernel_rfl
          case hft12 => kernel_rfl
          case hrt12 => kernel_rfl
          case hQt12 => exact fun _ _ _ h => h
          case hSt12 => assumption
          case hyt12 =>
            refine Or.inl ⟨by rfl, ?_⟩
            intro w hSw
            (try dsimp only at hSw)
            go_simp
            all_goals (with_reducible rfl)
          (try simp only [Act.put, List.setIfInBounds_toArray, List.set_cons_zero, List.set_cons_succ])
          refine' wpAnyH_take (i := 10) (oi := _) (v := _) ?hit13 ?hst13 ?hft13 ?hrt13 ?hQt13 ?hyt13 ?hSt13 ?_
          case hit13 => (simp only [List.getElem?_toArray, List.getElem?_cons_succ, List.getElem?_cons_zero]; rfl)
          case hst13 => kernel_rfl
          case hft13 => kernel_rfl
          case hrt13 => kernel_rfl
          case hQt13 => exact fun _ _ _ h => h
          case hSt13 => assumption
          case hyt13 =>
            refine Or.inl ⟨by rfl, ?_⟩
            intro w hSw
            (try dsimp only at hSw)
            go_simp
            all_goals (with_reducible rfl)
          (try simp only [Act.put, List.setIfInBounds_toArray, List.set_cons_zero, List.set_cons_succ])
          refine' wpAnyH_take (i := 11) (oi := _) (v := .agg (limA r)) ?hit14 ?hst14 ?hft14 ?hrt14 ?hQt14 ?hyt14 ?hSt14 ?_
          case hit14 => (simp only [List.getElem?_toArray, List.getElem?_cons_succ, List.getElem?_cons_zero]; rfl)
          case hst14 => kernel_rfl
          case hft14 => kernel_rfl
          case hrt14 => kernel_rfl
          case hQt14 => exact fun _ _ _ h => h
          case hSt14 => assumption
          case hyt14 =>
            refine Or.inl ⟨by rfl, ?_⟩
            intro W hS
            exact quiet_load_row 28 (.tmp 7) _ rfl 28 (limA r) _ (eR.out.old hS) Tryd.underlying28 rfl or.out.1 rfl
          (try simp only [Act.put, List.setIfInBounds_toArray, List.set_cons_zero, List.set_cons_succ])
          refine' wpAnyH_take (i := 12) (oi := _) (v := .agg (limF r)) ?hit15 ?hst15 ?hft15 ?hrt15 ?hQt15 ?hyt15 ?hSt15 ?_
          case hit15 => (simp only [List.getElem?_toArray, List.getElem?_cons_succ, List.getElem?_cons_zero]; rfl)
          case hst15 => kernel_rfl
          case hft15 => kernel_rfl
          case hrt15 => kernel_rfl
          case hQt15 => exact fun _ _ _ h => h
          case hSt15 => assumption
          case hyt15 =>
            refine Or.inl ⟨by rfl, ?_⟩
            intro W hS
            exact quiet_load_row 35 (.tmp 9) _ rfl 35 (limF r) _ (fR.out.old hS) Tryd.underlying35 rfl fr.out.1 rfl
          (try simp only [Act.put, List.setIfInBounds_toArray, List.set_cons_zero, List.set_cons_succ])
          refine wpAnyH_ready (rs := [13]) (by kernel_rfl) (by simp) ?_
          refine' (AllReadyH.cons (o := _) ?hir16_13 (fun K hK => ?br16_13) AllReadyH.nil)
          case hir16_13 => (simp only [List.getElem?_toArray, List.getElem?_cons_succ, List.getElem?_cons_zero]; rfl)
          case br16_13 =>
            go_simp
            refine (CS2.out _).mono ?_
            rintro e w17 ⟨rfl, hb17⟩
            have H17 := Lib.hid (H6.out.trans (hb17.mono H6.out.size))
            clear hb17
            go_wp2_with fail
            refine hK.out _ _ ?_ (fun hHeld => ?_)
            exact H17.out
            clear hK K
            (try simp only [Act.put, List.setIfInBounds_toArray, List.set_cons_zero, List.set_cons_succ])
            refine' wpAnyH_take (i := 14) (oi := _) (v := _) ?hit18 ?hst18 ?hft18 ?hrt18 ?hQt18 ?hyt18 ?hSt18 ?_
            case hit18 => (simp only [List.getElem?_toArray, List.getElem?_cons_succ, List.getElem?_cons_zero]; rfl)
            case hst18 => kernel_rfl
            case hft18 => kernel_rfl
            case hrt18 => kernel_rfl
            case hQt18 => exact fun _ _ _ h => h
            case hSt18 => assumption
            case hyt18 =>
              refine Or.inl ⟨by rfl, ?_⟩
              intro w hSw
              (try dsimp only at hSw)
              go_simp
              all_goals (with_reducible rfl)
            (try simp only [Act.put, List.setIfInBounds_toArray, List.set_cons_zero, List.set_cons_succ])
            refine' wpAnyH_take (i := 15) (oi := _) (v := _) ?hit19 ?hst19 ?hft19 ?hrt19 ?hQt19 ?hyt19 ?hSt19 ?_
            case hit19 => (simp only [List.getElem?_toArray, List.getElem?_cons_succ, List.getElem?_cons_zero]; rfl)
            case hst19 => kernel_rfl
            case hft19 => kernel_rfl
            case hrt19 => kernel_rfl
            case hQt19 => exact fun _ _ _ h => h
            case hSt19 => assumption
            case hyt19 =>
              refine Or.inl ⟨by rfl, ?_⟩
              intro w hSw
              (try dsimp only at hSw)
              go_simp
              all_goals (with_reducible rfl)
            (try simp only [Act.put, List.setIfInBounds_toArray, List.set_cons_zero, List.set_cons_succ])
            refine' wpAnyH_take (i := 16) (oi := _) (v := _) ?hit20 ?hst20 ?hft20 ?hrt20 ?hQt20 ?hyt20 ?hSt20 ?_
            case hit20 => (simp only [List.getElem?_toArray, List.getElem?_cons_succ, List.getElem?_cons_zero]; rfl)
            case hst20 => kernel_rfl
            case hft20 => kernel_rfl
            case hrt20 => kernel_rfl
            case hQt20 => exact fun _ _ _ h => h
            case hSt20 => assumption
            case hyt20 =>
              refine Or.inl ⟨by rfl, ?_⟩
              intro w hSw
              (try dsimp only at hSw)
              go_simp
              all_goals (with_reducible rfl)
            (try simp only [Act.put, List.setIfInBounds_toArray, List.set_cons_zero, List.set_cons_succ])
            refine' wpAnyH_take (i := 17) (oi := _) (v := .agg (limA r)) ?hit21 ?hst21 ?hft21 ?hrt21 ?hQt21 ?hyt21 ?hSt21 ?_
            case hit21 => (simp only [List.getElem?_toArray, List.getElem?_cons_succ, List.getElem?_cons_zero]; rfl)
            case hst21 => kernel_rfl
            case hft21 => kernel_rfl
            case hrt21 => kernel_rfl
            case hQt21 => exact fun _ _ _ h => h
            case hSt21 => assumption
            case hyt21 =>
              refine Or.inl ⟨by rfl, ?_⟩
              intro W hS
              exact quiet_load_row 28 (.tmp 7) _ rfl 28 (limA r) _ (eR.out.old hS) Tryd.underlying28 rfl or.out.1 rfl
            (try simp only [Act.put, List.setIfInBounds_toArray, List.set_cons_zero, List.set_cons_succ])
            refine wpAnyH_ready (rs := [18]) (by kernel_rfl) (by simp) ?_
            refine' (AllReadyH.cons (o := _) ?hir22_18 (fun K hK => ?br22_18) AllReadyH.nil)
            case hir22_18 => (simp only [List.getElem?_toArray, List.getElem?_cons_succ, List.getElem?_cons_zero]; rfl)
            case br22_18 =>
              go_simp
              refine (CO.out _).mono ?_
              rintro e w23 ⟨rfl, hb23⟩
              have H23 := Lib.hid (H17.out.trans (hb23.mono H17.out.size))
              clear hb23
              go_wp2_with fail
              refine hK.out _ _ ?_ (fun hHeld => ?_)
              exact H23.out
              clear hK K
              (try simp only [Act.put, List.setIfInBounds_toArray, List.set_cons_zero, List.set_cons_succ])
              refine' wpAnyH_take (i := 19) (oi := _) (v := _) ?hit24 ?hst24 ?hft24 ?hrt24 ?hQt24 ?hyt24 ?hSt24 ?_
              case hit24 => (simp only [List.getElem?_toArray, List.getElem?_cons_succ, List.getElem?_cons_zero]; rfl)
              case hst24 => kernel_rfl
              case hft24 => kernel_rfl
              case hrt24 => kernel_rfl
              case hQt24 => exact fun _ _ _ h => h
              case hSt24 => assumption
              case hyt24 =>
                refine Or.inl ⟨by rfl, ?_⟩
                intro w hSw
                (try dsimp only at hSw)
                go_simp
                all_goals (with_reducible rfl)
              (try simp only [Act.put, List.setIfInBounds_toArray, List.set_cons_zero, List.set_cons_succ])
              refine' wpAnyH_take (i := 20) (oi := _) (v := _) ?hit25 ?hst25 ?hft25 ?hrt25 ?hQt25 ?hyt25 ?hSt25 ?_
              case hit25 => (simp only [List.getElem?_toArray, List.getElem?_cons_succ, List.getElem?_cons_zero]; rfl)
              case hst25 => kernel_rfl
              case hft25 => kernel_rfl
              case hrt25 => kernel_rfl
              case hQt25 => exact fun _ _ _ h => h
              case hSt25 => assumption
              case hyt25 =>
                refine Or.inl ⟨by rfl, ?_⟩
                intro w hSw
                (try dsimp only at hSw)
                go_simp
                all_goals (with_reducible rfl)
              (try simp only [Act.put, List.setIfInBounds_toArray, List.set_cons_zero, List.set_cons_succ])
              refine' wpAnyH_take (i := 21) (oi := _) (v := _) ?hit26 ?hst26 ?hft26 ?hrt26 ?hQt26 ?hyt26 ?hSt26 ?_
              case hit26 => (simp only [List.getElem?_toArray, List.getElem?_cons_succ, List.getElem?_cons_zero]; rfl)
              case hst26 => kernel_rfl
              case hft26 => kernel_rfl
              case hrt26 => kernel_rfl
              case hQt26 => exact fun _ _ _ h => h
              case hSt26 => assumption
              case hyt26 =>
                refine Or.inl ⟨by rfl, ?_⟩
                intro w hSw
                (try dsimp only at hSw)
                go_simp
                all_goals (with_reducible rfl)
              (try simp only [Act.put, List.setIfInBounds_toArray, List.set_cons_zero, List.set_cons_succ])
              refine' wpAnyH_take (i := 22) (oi := _) (v := _) ?hit27 ?hst27 ?hft27 ?hrt27 ?hQt27 ?hyt27 ?hSt27 ?_
              case hit27 => (simp only [List.getElem?_toArray, List.getElem?_cons_succ, List.getElem?_cons_zero]; rfl)
              case hst27 => kernel_rfl
              case hft27 => kernel_rfl
              case hrt27 => kernel_rfl
              case hQt27 => exact fun _ _ _ h => h
              case hSt27 => assumption
              case hyt27 =>
                refine Or.inl ⟨by rfl, ?_⟩
                intro w hSw
                (try dsimp only at hSw)
                go_simp
                all_goals (with_reducible rfl)
              (try simp only [Act.put, List.setIfInBounds_toArray, List.set_cons_zero, List.set_cons_succ])
              refine' wpAnyH_take (i := 23) (oi := _) (v := undef) ?hit28 ?hst28 ?hft28 ?hrt28 ?hQt28 ?hyt28 ?hSt28 ?_
              case hit28 => (simp only [List.getElem?_toArray, List.getElem?_cons_succ, List.getElem?_cons_zero]; rfl)
              case hst28 => kernel_rfl
              case hft28 => kernel_rfl
              case hrt28 => kernel_rfl
              case hQt28 => exact fun _ _ _ h => h
              case hSt28 => assumption
              case hyt28 =>
                exact Or.inr ⟨by rfl, rfl⟩
              (try simp only [Act.put, List.setIfInBounds_toArray, List.set_cons_zero, List.set_cons_succ])
              refine' wpAnyH_take (i := 24) (oi := _) (v := undef) ?hit29 ?hst29 ?hft29 ?hrt29 ?hQt29 ?hyt29 ?hSt29 ?_
              case hit29 => (simp only [List.getElem?_toArray, List.getElem?_cons_succ, List.getElem?_cons_zero]; rfl)
              case hst29 => kernel_rfl
              case hft29 => kernel_rfl
              case hrt29 => kernel_rfl
              case hQt29 => exact fun _ _ _ h => h
              case hSt29 => assumption
              case hyt29 =>
                exact Or.inr ⟨by rfl, rfl⟩
              (try simp only [Act.put, List.setIfInBounds_toArray, List.set_cons_zero, List.set_cons_succ])
              refine' wpAnyH_take (i := 25) (oi := _) (v := undef) ?hit30 ?hst30 ?hft30 ?hrt30 ?hQt30 ?hyt30 ?hSt30 ?_
              case hit30 => (simp only [List.getElem?_toArray, List.getElem?_cons_succ, List.getElem?_cons_zero]; rfl)
              case hst30 => kernel_rfl
              case hft30 => kernel_rfl
              case hrt30 => kernel_rfl
              case hQt30 => exact fun _ _ _ h => h
              case hSt30 => assumption
              case hyt30 =>
                exact Or.inr ⟨by rfl, rfl⟩
              (try simp only [Act.put, List.setIfInBounds_toArray, List.set_cons_zero, List.set_cons_succ])
              refine' wpAnyH_take (i := 26) (oi := _) (v := undef) ?hit31 ?hst31 ?hft31 ?hrt31 ?hQt31 ?hyt31 ?hSt31 ?_
              case hit31 => (simp only [List.getElem?_toArray, List.getElem?_cons_succ, List.getElem?_cons_zero]; rfl)
              case hst31 => kernel_rfl
              case hft31 => kernel_rfl
              case hrt31 => kernel_rfl
              case hQt31 => exact fun _ _ _ h => h
              case hSt31 => assumption
              case hyt31 =>
                exact Or.inr ⟨by rfl, rfl⟩
              (try simp only [Act.put, List.setIfInBounds_toArray, List.set_cons_zero, List.set_cons_succ])
              refine' wpAnyH_take (i := 27) (oi := _) (v := undef) ?hit32 ?hst32 ?hft32 ?hrt32 ?hQt32 ?hyt32 ?hSt32 ?_
              case hit32 => (simp only [List.getElem?_toArray, List.getElem?_cons_succ, List.getElem?_cons_zero]; rfl)
              case hst32 => kernel_rfl
              case hft32 => kernel_rfl
              case hrt32 => kernel_rfl
              case hQt32 => exact fun _ _ _ h => h
              case hSt32 => assumption
              case hyt32 =>
                exact Or.inr ⟨by rfl, rfl⟩
              (try simp only [Act.put, List.setIfInBounds_toArray, List.set_cons_zero, List.set_cons_succ])
              refine' wpAnyH_take (i := 28) (oi := _) (v := undef) ?hit33 ?hst33 ?hft33 ?hrt33 ?hQt33 ?hyt33 ?hSt33 ?_
              case hit33 => (simp only [List.getElem?_toArray, List.getElem?_cons_succ, List.getElem?_cons_zero]; rfl)
              case hst33 => kernel_rfl
              case hft33 => kernel_rfl
              case hrt33 => kernel_rfl
              case hQt33 => exact fun _ _ _ h => h
              case hSt33 => assumption
              case hyt33 =>
                exact Or.inr ⟨by rfl, rfl⟩
              (try simp only [Act.put, List.setIfInBounds_toArray, List.set_cons_zero, List.set_cons_succ])
              refine' wpAnyH_take (i := 29) (oi := _) (v := _) ?hit34 ?hst34 ?hft34 ?hrt34 ?hQt34 ?hyt34 ?hSt34 ?_
              case hit34 => (simp only [List.getElem?_toArray, List.getElem?_cons_succ, List.getElem?_cons_zero]; rfl)
              case hst34 => kernel_rfl
              case hft34 => kernel_rfl
              case hrt34 => kernel_rfl
              case hQt34 => exact fun _ _ _ h => h
              case hSt34 => assumption
              case hyt34 =>
                refine Or.inl ⟨by rfl, ?_⟩
                intro w hSw
                (try dsimp only at hSw)
                go_simp
                all_goals (with_reducible rfl)
              (try simp only [Act.put, List.setIfInBounds_toArray, List.set_cons_zero, List.set_cons_succ])
              refine' wpAnyH_take (i := 30) (oi := _) (v := _) ?hit35 ?hst35 ?hft35 ?hrt35 ?hQt35 ?hyt35 ?hSt35 ?_
              case hit35 => (simp only [List.getElem?_toArray, List.getElem?_cons_succ, List.getElem?_cons_zero]; rfl)
              case hst35 => kernel_rfl
              case hft35 => kernel_rfl
              case hrt35 => kernel_rfl
              case hQt35 => exact fun _ _ _ h => h
              case hSt35 => assumption
              case hyt35 =>
                refine Or.inl ⟨by rfl, ?_⟩
                intro w hSw
                (try dsimp only at hSw)
                go_simp
                all_goals (with_reducible rfl)
              (try simp only [Act.put, List.setIfInBounds_toArray, List.set_cons_zero, List.set_cons_succ])
              refine wpAnyH_done (by kernel_rfl) ?_ _
              clear hHeld
              go_wp2_with fail
              go_meet
              exact ⟨rfl, H23.out⟩
    · have CSQ2 := Lib.hid (CSQ.out hbv)
      clear hbv CSQ
      refine wp_region_held_drew (S := fun V => Below W6.heap.size W6 V) (by kernel_rfl) (Below.refl _ _).drew (fun hHeld => ?_)
      have HBW6 := Lib.hid ((Below.refl W6.heap.size W6).drew)
      generalize W6.drew = VW6 at *
      refine' wpAnyH_take (i := 0) (oi := _) (v := .agg (limA y)) ?hit36 ?hst36 ?hft36 ?hrt36 ?hQt36 ?hyt36 ?hSt36 ?_
      case hit36 => (simp only [List.getElem?_toArray, List.getElem?_cons_succ, List.getElem?_cons_zero]; rfl)
      case hst36 => kernel_rfl
      case hft36 => kernel_rfl
      case hrt36 => kernel_rfl
      case hQt36 => exact fun _ _ _ h => h
      case hSt36 => assumption
      case hyt36 =>
        refine Or.inl ⟨by rfl, ?_⟩
        intro W hS
        exact quiet_load_row 28 (.tmp 6) _ rfl 28 (limA y) _ (eY.out.old hS) Tryd.underlying28 rfl oy.out.1 rfl
      (try simp only [Act.put, List.setIfInBounds_toArray, List.set_cons_zero, List.set_cons_succ])
      refine' wpAnyH_take (i := 1) (oi := _) (v := .agg (limF va)) ?hit37 ?hst37 ?hft37 ?hrt37 ?hQt37 ?hyt37 ?hSt37 ?_
      case hit37 => (simp only [List.getElem?_toArray, List.getElem?_cons_succ, List.getElem?_cons_zero]; rfl)
      case hst37 => kernel_rfl
      case hft37 => kernel_rfl
      case hrt37 => kernel_rfl
      case hQt37 => exact fun _ _ _ h => h
      case hSt37 => assumption
      case hyt37 =>
        refine Or.inl ⟨by rfl, ?_⟩
        intro W hS
        exact quiet_load_row 35 (.tmp 4) _ rfl 35 (limF va) _ (fA.out.old hS) Tryd.underlying35 rfl fa.out.1 rfl
      (try simp only [Act.put, List.setIfInBounds_toArray, List.set_cons_zero, List.set_cons_succ])
      refine wpAnyH_ready (rs := [2]) (by kernel_rfl) (by simp) ?_
      refine' (AllReadyH.cons (o := _) ?hir38_2 (fun K hK => ?br38_2) AllReadyH.nil)
      case hir38_2 => (simp only [List.getElem?_toArray, List.getElem?_cons_succ, List.getElem?_cons_zero]; rfl)
      case br38_2 =>
        go_simp
        refine (CRI.out _).mono ?_
        rintro e w39 ⟨rfl, hb39⟩
        have H39 := Lib.hid (HBW6.out.trans (hb39.mono HBW6.out.size))
        clear hb39
        go_wp2_with fail
        refine hK.out _ _ ?_ (fun hHeld => ?_)
        exact H39.out
        clear hK K
        (try simp only [Act.put, List.setIfInBounds_toArray, List.set_cons_zero, List.set_cons_succ])
        refine wpAnyH_ready (rs := [3]) (by kernel_rfl) (by simp) ?_
        refine' (AllReadyH.cons (o := _) ?hir40_3 (fun K hK => ?br40_3) AllReadyH.nil)
        case hir40_3 => (simp only [List.getElem?_toArray, List.getElem?_cons_succ, List.getElem?_cons_zero]; rfl)
        case br40_3 =>
          go_simp
          refine (CS1.out _).mono ?_
          rintro e w41 ⟨rfl, hb41⟩
          have H41 := Lib.hid (H39.out.trans (hb41.mono H39.out.size))
          clear hb41
          go_wp2_with fail
          refine hK.out _ _ ?_ (fun hHeld => ?_)
          exact H41.out
          clear hK K
          (try simp only [Act.put, List.setIfInBounds_toArray, List.set_cons_zero, List.set_cons_succ])
          refine' wpAnyH_take (i := 4) (oi := _) (v := _) ?hit42 ?hst42 ?hft42 ?hrt42 ?hQt42 ?hyt42 ?hSt42 ?_
          case hit42 => (simp only [List.getElem?_toArray, List.getElem?_cons_succ, List.getElem?_cons_zero]; rfl)
          case hst42 => kernel_rfl
          case hft42 => kernel_rfl
          case hrt42 => kernel_rfl
          case hQt42 => exact fun _ _ _ h => h
          case hSt42 => assumption
          case hyt42 =>
            refine Or.inl ⟨by rfl, ?_⟩
            intro w hSw
            (try dsimp only at hSw)
            go_simp
            all_goals (with_reducible rfl)
          (try simp only [Act.put, List.setIfInBounds_toArray, List.set_cons_zero, List.set_cons_succ])
          refine' wpAnyH_take (i := 5) (oi := _) (v := _) ?hit43 ?hst43 ?hft43 ?hrt43 ?hQt43 ?hyt43 ?hSt43 ?_
          case hit43 => (simp only [List.getElem?_toArray, List.getElem?_cons_succ, List.getElem?_cons_zero]; rfl)
          case hst43 => kernel_rfl
          case hft43 => kernel_rfl
          case hrt43 => kernel_rfl
          case hQt43 => exact fun _ _ _ h => h
          case hSt43 => assumption
          case hyt43 =>
            refine Or.inl ⟨by rfl, ?_⟩
            intro w hSw
            (try dsimp only at hSw)
            go_simp
            all_goals (with_reducible rfl)
          (try simp only [Act.put, List.setIfInBounds_toArray, List.set_cons_zero, List.set_cons_succ])
          refine' wpAnyH_take (i := 6) (oi := _) (v := _) ?hit44 ?hst44 ?hft44 ?hrt44 ?hQt44 ?hyt44 ?hSt44 ?_
          case hit44 => (simp only [List.getElem?_toArray, List.getElem?_cons_succ, List.getElem?_cons_zero]; rfl)
          case hst44 => kernel_rfl
          case hft44 => kernel_rfl
          case hrt44 => kernel_rfl
          case hQt44 => exact fun _ _ _ h => h
          case hSt44 => assumption
          case hyt44 =>
            refine Or.inl ⟨by rfl, ?_⟩
            intro w hSw
            (try dsimp only at hSw)
            go_simp
            all_goals (with_reducible rfl)
          (try simp only [Act.put, List.setIfInBounds_toArray, List.set_cons_zero, List.set_cons_succ])
          refine' wpAnyH_take (i := 7) (oi := _) (v := _) ?hit45 ?hst45 ?hft45 ?hrt45 ?hQt45 ?hyt45 ?hSt45 ?_
          case hit45 => (simp only [List.getElem?_toArray, List.getElem?_cons_succ, List.getElem?_cons_zero]; rfl)
          case hst45 => kernel_rfl
          case hft45 => kernel_rfl
          case hrt45 => kernel_rfl
          case hQt45 => exact fun _ _ _ h => h
          case hSt45 => assumption
          case hyt45 =>
            refine Or.inl ⟨by rfl, ?_⟩
            intro w hSw
            (try dsimp only at hSw)
            go_simp
            all_goals (with_reducible rfl)
          (try simp only [Act.put, List.setIfInBounds_toArray, List.set_cons_zero, List.set_cons_succ])
          refine' wpAnyH_take (i := 8) (oi := _) (v := _) ?hit46 ?hst46 ?hft46 ?hrt46 ?hQt46 ?hyt46 ?hSt46 ?_
          case hit46 => (simp only [List.getElem?_toArray, List.getElem?_cons_succ, List.getElem?_cons_zero]; rfl)
          case hst46 => kernel_rfl
          case hft46 => kernel_rfl
          case hrt46 => kernel_rfl
          case hQt46 => exact fun _ _ _ h => h
          case hSt46 => assumption
          case hyt46 =>
            refine Or.inl ⟨by rfl, ?_⟩
            intro w hSw
            (try dsimp only at hSw)
            go_simp
            all_goals (with_reducible rfl)
          (try simp only [Act.put, List.setIfInBounds_toArray, List.set_cons_zero, List.set_cons_succ])
          refine' wpAnyH_take (i := 9) (oi := _) (v := _) ?hit47 ?hst47 ?hft47 ?hrt47 ?hQt47 ?hyt47 ?hSt47 ?_
          case hit47 => (simp only [List.getElem?_toArray, List.getElem?_cons_succ, List.getElem?_cons_zero]; rfl)
          case hst47 => kernel_rfl
          case hft47 => kernel_rfl
          case hrt47 => kernel_rfl
          case hQt47 => exact fun _ _ _ h => h
          case hSt47 => assumption
          case hyt47 =>
            refine Or.inl ⟨by rfl, ?_⟩
            intro w hSw
            (try dsimp only at hSw)
            go_simp
            all_goals (with_reducible rfl)
          (try simp only [Act.put, List.setIfInBounds_toArray, List.set_cons_zero, List.set_cons_succ])
          refine' wpAnyH_take (i := 10) (oi := _) (v := _) ?hit48 ?hst48 ?hft48 ?hrt48 ?hQt48 ?hyt48 ?hSt48 ?_
          case hit48 => (simp only [List.getElem?_toArray, List.getElem?_cons_succ, List.getElem?_cons_zero]; rfl)
          case hst48 => kernel_rfl
          case hft48 => kernel_rfl
          case hrt48 => kernel_rfl
          case hQt48 => exact fun _ _ _ h => h
          case hSt48 => assumption
          case hyt48 =>
            refine Or.inl ⟨by rfl, ?_⟩
            intro w hSw
            (try dsimp only at hSw)
            go_simp
            all_goals (with_reducible rfl)
          (try simp only [Act.put, List.setIfInBounds_toArray, List.set_cons_zero, List.set_cons_succ])
          refine' wpAnyH_take (i := 11) (oi := _) (v := .agg (limA r)) ?hit49 ?hst49 ?hft49 ?hrt49 ?hQt49 ?hyt49 ?hSt49 ?_
          case hit49 => (simp only [List.getElem?_toArray, List.getElem?_cons_succ, List.getElem?_cons_zero]; rfl)
          case hst49 => kernel_rfl
          case hft49 => kernel_rfl
          case hrt49 => kernel_rfl
          case hQt49 => exact fun _ _ _ h => h
          case hSt49 => assumption
          case hyt49 =>
            refine Or.inl ⟨by rfl, ?_⟩
            intro W hS
            exact quiet_load_row 28 (.tmp 7) _ rfl 28 (limA r) _ (eR.out.old hS) Tryd.underlying28 rfl or.out.1 rfl
          (try simp only [Act.put, List.setIfInBounds_toArray, List.set_cons_zero, List.set_cons_succ])
          refine' wpAnyH_take (i := 12) (oi := _) (v := .agg (limF r)) ?hit50 ?hst50 ?hft50 ?hrt50 ?hQt50 ?hyt50 ?hSt50 ?_
          case hit50 => (simp only [List.getElem?_toArray, List.getElem?_cons_succ, List.getElem?_cons_zero]; rfl)
          case hst50 => kernel_rfl
          case hft50 => kernel_rfl
          case hrt50 => kernel_rfl
          case hQt50 => exact fun _ _ _ h => h
          case hSt50 => assumption
          case hyt50 =>
            refine Or.inl ⟨by rfl, ?_⟩
            intro W hS
            exact quiet_load_row 35 (.tmp 9) _ rfl 35 (limF r) _ (fR.out.old hS) Tryd.underlying35 rfl fr.out.1 rfl
          (try simp only [Act.put, List.setIfInBounds_toArray, List.set_cons_zero, List.set_cons_succ])
          refine wpAnyH_ready (rs := [13]) (by kernel_rfl) (by simp) ?_
          refine' (AllReadyH.cons (o := _) ?hir51_13 (fun K hK => ?br51_13) AllReadyH.nil)
          case hir51_13 => (simp only [List.getElem?_toArray, List.getElem?_cons_succ, List.getElem?_cons_zero]; rfl)
          case br51_13 =>
            go_simp
            refine (CS2.out _).mono ?_
            rintro e w52 ⟨rfl, hb52⟩
            have H52 := Lib.hid (H41.out.trans (hb52.mono H41.out.size))
            clear hb52
            go_wp2_with fail
            refine hK.out _ _ ?_ (fun hHeld => ?_)
            exact H52.out
            clear hK K
            (try simp only [Act.put, List.setIfInBounds_toArray, List.set_cons_zero, List.set_cons_succ])
            refine' wpAnyH_take (i := 14) (oi := _) (v := _) ?hit53 ?hst53 ?hft53 ?hrt53 ?hQt53 ?hyt53 ?hSt53 ?_
            case hit53 => (simp only [List.getElem?_toArray, List.getElem?_cons_succ, List.getElem?_cons_zero]; rfl)
            case hst53 => kernel_rfl
            case hft53 => kernel_rfl
            case hrt53 => kernel_rfl
            case hQt53 => exact fun _ _ _ h => h
            case hSt53 => assumption
            case hyt53 =>
              refine Or.inl ⟨by rfl, ?_⟩
              intro w hSw
              (try dsimp only at hSw)
              go_simp
              all_goals (with_reducible rfl)
            (try simp only [Act.put, List.setIfInBounds_toArray, List.set_cons_zero, List.set_cons_succ])
            refine' wpAnyH_take (i := 15) (oi := _) (v := _) ?hit54 ?hst54 ?hft54 ?hrt54 ?hQt54 ?hyt54 ?hSt54 ?_
            case hit54 => (simp only [List.getElem?_toArray, List.getElem?_cons_succ, List.getElem?_cons_zero]; rfl)
            case hst54 => kernel_rfl
            case hft54 => kernel_rfl
            case hrt54 => kernel_rfl
            case hQt54 => exact fun _ _ _ h => h
            case hSt54 => assumption
            case hyt54 =>
              refine Or.inl ⟨by rfl, ?_⟩
              intro w hSw
              (try dsimp only at hSw)
              go_simp
              all_goals (with_reducible rfl)
            (try simp only [Act.put, List.setIfInBounds_toArray, List.set_cons_zero, List.set_cons_succ])
            refine' wpAnyH_take (i := 16) (oi := _) (v := _) ?hit55 ?hst55 ?hft55 ?hrt55 ?hQt55 ?hyt55 ?hSt55 ?_
            case hit55 => (simp only [List.getElem?_toArray, List.getElem?_cons_succ, List.getElem?_cons_zero]; rfl)
            case hst55 => kernel_rfl
            case hft55 => kernel_rfl
            case hrt55 => kernel_rfl
            case hQt55 => exact fun _ _ _ h => h
            case hSt55 => assumption
            case hyt55 =>
              refine Or.inl ⟨by rfl, ?_⟩
              intro w hSw
              (try dsimp only at hSw)
              go_simp
              all_goals (with_reducible rfl)
            (try simp only [Act.put, List.setIfInBounds_toArray, List.set_cons_zero, List.set_cons_succ])
            refine' wpAnyH_take (i := 17) (oi := _) (v := .agg (limA r)) ?hit56 ?hst56 ?hft56 ?hrt56 ?hQt56 ?hyt56 ?hSt56 ?_
            case hit56 => (simp only [List.getElem?_toArray, List.getElem?_cons_succ, List.getElem?_cons_zero]; rfl)
            case hst56 => kernel_rfl
            case hft56 => kernel_rfl
            case hrt56 => kernel_rfl
            case hQt56 => exact fun _ _ _ h => h
            case hSt56 => assumption
            case hyt56 =>
              refine Or.inl ⟨by rfl, ?_⟩
              intro W hS
              exact quiet_load_row 28 (.tmp 7) _ rfl 28 (limA r) _ (eR.out.old hS) Tryd.underlying28 rfl or.out.1 rfl
            (try simp only [Act.put, List.setIfInBounds_toArray, List.set_cons_zero, List.set_cons_succ])
            refine wpAnyH_ready (rs := [18]) (by kernel_rfl) (by simp) ?_
            refine' (AllReadyH.cons (o := _) ?hir57_18 (fun K hK => ?br57_18) AllReadyH.nil)
            case hir57_18 => (simp only [List.getElem?_toArray, List.getElem?_cons_succ, List.getElem?_cons_zero]; rfl)
            case br57_18 =>
              go_simp
              refine (CO.out _).mono ?_
              rintro e w58 ⟨rfl, hb58⟩
              have H58 := Lib.hid (H52.out.trans (hb58.mono H52.out.size))
              clear hb58
              go_wp2_with fail
              refine hK.out _ _ ?_ (fun hHeld => ?_)
              exact H58.out
              clear hK K
              (try simp only [Act.put, List.setIfInBounds_toArray, List.set_cons_zero, List.set_cons_succ])
              refine' wpAnyH_take (i := 19) (oi := _) (v := _) ?hit59 ?hst59 ?hft59 ?hrt59 ?hQt59 ?hyt59 ?hSt59 ?_
              case hit59 => (simp only [List.getElem?_toArray, List.getElem?_cons_succ, List.getElem?_cons_zero]; rfl)
              case hst59 => kernel_rfl
              case hft59 => kernel_rfl
              case hrt59 => kernel_rfl
              case hQt59 => exact fun _ _ _ h => h
              case hSt59 => assumption
              case hyt59 =>
                refine Or.inl ⟨by rfl, ?_⟩
                intro w hSw
                (try dsimp only at hSw)
                go_simp
                all_goals (with_reducible rfl)
              (try simp only [Act.put, List.setIfInBounds_toArray, List.set_cons_zero, List.set_cons_succ])
              refine' wpAnyH_take (i := 20) (oi := _) (v := _) ?hit60 ?hst60 ?hft60 ?hrt60 ?hQt60 ?hyt60 ?hSt60 ?_
              case hit60 => (simp only [List.getElem?_toArray, List.getElem?_cons_succ, List.getElem?_cons_zero]; rfl)
              case hst60 => kernel_rfl
              case hft60 => kernel_rfl
              case hrt60 => kernel_rfl
              case hQt60 => exact fun _ _ _ h => h
              case hSt60 => assumption
              case hyt60 =>
                refine Or.inl ⟨by rfl, ?_⟩
                intro w hSw
                (try dsimp only at hSw)
                go_simp
                all_goals (with_reducible rfl)
              (try simp only [Act.put, List.setIfInBounds_toArray, List.set_cons_zero, List.set_cons_succ])
              refine' wpAnyH_take (i := 21) (oi := _) (v := _) ?hit61 ?hst61 ?hft61 ?hrt61 ?hQt61 ?hyt61 ?hSt61 ?_
              case hit61 => (simp only [List.getElem?_toArray, List.getElem?_cons_succ, List.getElem?_cons_zero]; rfl)
              case hst61 => kernel_rfl
              case hft61 => kernel_rfl
              case hrt61 => kernel_rfl
              case hQt61 => exact fun _ _ _ h => h
              case hSt61 => assumption
              case hyt61 =>
                refine Or.inl ⟨by rfl, ?_⟩
                intro w hSw
                (try dsimp only at hSw)
                go_simp
                all_goals (with_reducible rfl)
              (try simp only [Act.put, List.setIfInBounds_toArray, List.set_cons_zero, List.set_cons_succ])
              refine' wpAnyH_take (i := 22) (oi := _) (v := _) ?hit62 ?hst62 ?hft62 ?hrt62 ?hQt62 ?hyt62 ?hSt62 ?_
              case hit62 => (simp only [List.getElem?_toArray, List.getElem?_cons_succ, List.getElem?_cons_zero]; rfl)
              case hst62 => kernel_rfl
              case hft62 => kernel_rfl
              case hrt62 => kernel_rfl
              case hQt62 => exact fun _ _ _ h => h
              case hSt62 => assumption
              case hyt62 =>
                refine Or.inl ⟨by rfl, ?_⟩
                intro w hSw
                (try dsimp only at hSw)
                go_simp
                all_goals (with_reducible rfl)
              (try simp only [Act.put, List.setIfInBounds_toArray, List.set_cons_zero, List.set_cons_succ])
              refine' wpAnyH_take (i := 23) (oi := _) (v := .agg (limA r)) ?hit63 ?hst63 ?hft63 ?hrt63 ?hQt63 ?hyt63 ?hSt63 ?_
              case hit63 => (simp only [List.getElem?_toArray, List.getElem?_cons_succ, List.getElem?_cons_zero]; rfl)
              case hst63 => kernel_rfl
              case hft63 => kernel_rfl
              case hrt63 => kernel_rfl
              case hQt63 => exact fun _ _ _ h => h
              case hSt63 => assumption
              case hyt63 =>
                refine Or.inl ⟨by rfl, ?_⟩
                intro W hS
                exact quiet_load_row 28 (.tmp 7) _ rfl 28 (limA r) _ (eR.out.old hS) Tryd.underlying28 rfl or.out.1 rfl
              (try simp only [Act.put, List.setIfInBounds_toArray, List.set_cons_zero, List.set_cons_succ])
              refine' wpAnyH_take (i := 24) (oi := _) (v := .agg (limA r)) ?hit64 ?hst64 ?hft64 ?hrt64 ?hQt64 ?hyt64 ?hSt64 ?_
              case hit64 => (simp only [List.getElem?_toArray, List.getElem?_cons_succ, List.getElem?_cons_zero]; rfl)
              case hst64 => kernel_rfl
              case hft64 => kernel_rfl
              case hrt64 => kernel_rfl
              case hQt64 => exact fun _ _ _ h => h
              case hSt64 => assumption
              case hyt64 =>
                refine Or.inl ⟨by rfl, ?_⟩
                intro W hS
                exact quiet_load_row 28 (.tmp 7) _ rfl 28 (limA r) _ (eR.out.old hS) Tryd.underlying28 rfl or.out.1 rfl
              (try simp only [Act.put, List.setIfInBounds_toArray, List.set_cons_zero, List.set_cons_succ])
              refine' wpAnyH_take (i := 26) (oi := _) (v := .agg (limA va)) ?hit65 ?hst65 ?hft65 ?hrt65 ?hQt65 ?hyt65 ?hSt65 ?_
              case hit65 => (simp only [List.getElem?_toArray, List.getElem?_cons_succ, List.getElem?_cons_zero]; rfl)
              case hst65 => kernel_rfl
              case hft65 => kernel_rfl
              case hrt65 => kernel_rfl
              case hQt65 => exact fun _ _ _ h => h
              case hSt65 => assumption
              case hyt65 =>
                refine Or.inl ⟨by rfl, ?_⟩
                intro W hS
                exact quiet_load_row 28 (.tmp 3) _ rfl 28 (limA va) _ (eA.out.old hS) Tryd.underlying28 rfl oa.out.1 rfl
              (try simp only [Act.put, List.setIfInBounds_toArray, List.set_cons_zero, List.set_cons_succ])
              refine wpAnyH_ready (rs := [25]) (by kernel_rfl) (by simp) ?_
              refine' (AllReadyH.cons (o := _) ?hir66_25 (fun K hK => ?br66_25) AllReadyH.nil)
              case hir66_25 => (simp only [List.getElem?_toArray, List.getElem?_cons_succ, List.getElem?_cons_zero]; rfl)
              case br66_25 =>
                go_simp
                refine (CM.out _ (HPW.out.old H58.out)).mono ?_
                rintro e w67 ⟨rfl, hb67⟩
                have H67 := Lib.hid (H58.out.trans (hb67.mono H58.out.size))
                clear hb67
                go_wp2_with fail
                refine hK.out _ _ ?_ (fun hHeld => ?_)
                exact H67.out
                clear hK K
                (try simp only [Act.put, List.setIfInBounds_toArray, List.set_cons_zero, List.set_cons_succ])
                refine wpAnyH_ready (rs := [27]) (by kernel_rfl) (by simp) ?_
                refine' (AllReadyH.cons (o := _) ?hir68_27 (fun K hK => ?br68_27) AllReadyH.nil)
                case hir68_27 => (simp only [List.getElem?_toArray, List.getElem?_cons_succ, List.getElem?_cons_zero]; rfl)
                case br68_27 =>
                  go_simp
                  refine (CSQ2.out _).mono ?_
                  rintro e w69 ⟨rfl, hb69⟩
                  have H69 := Lib.hid (H67.out.trans (hb69.mono H67.out.size))
                  clear hb69
                  go_wp2_with fail
                  refine hK.out _ _ ?_ (fun hHeld => ?_)
                  exact H69.out
                  clear hK K
                  (try simp only [Act.put, List.setIfInBounds_toArray, List.set_cons_zero, List.set_cons_succ])
                  refine' wpAnyH_take (i := 28) (oi := _) (v := _) ?hit70 ?hst70 ?hft70 ?hrt70 ?hQt70 ?hyt70 ?hSt70 ?_
                  case hit70 => (simp only [List.getElem?_toArray, List.getElem?_cons_succ, List.getElem?_cons_zero]; rfl)
                  case hst70 => kernel_rfl
                  case hft70 => kernel_rfl
                  case hrt70 => kernel_rfl
                  case hQt70 => exact fun _ _ _ h => h
                  case hSt70 => assumption
                  case hyt70 =>
                    refine Or.inl ⟨by rfl, ?_⟩
                    intro w hSw
                    (try dsimp only at hSw)
                    go_simp
                    all_goals (with_reducible rfl)
                  (try simp only [Act.put, List.setIfInBounds_toArray, List.set_cons_zero, List.set_cons_succ])
                  refine' wpAnyH_take (i := 29) (oi := _) (v := _) ?hit71 ?hst71 ?hft71 ?hrt71 ?hQt71 ?hyt71 ?hSt71 ?_
                  case hit71 => (simp only [List.getElem?_toArray, List.getElem?_cons_succ, List.getElem?_cons_zero]; rfl)
                  case hst71 => kernel_rfl
                  case hft71 => kernel_rfl
                  case hrt71 => kernel_rfl
                  case hQt71 => exact fun _ _ _ h => h
                  case hSt71 => assumption
                  case hyt71 =>
                    refine Or.inl ⟨by rfl, ?_⟩
                    intro w hSw
                    (try dsimp only at hSw)
                    go_simp
                    all_goals (with_reducible rfl)
                  (try simp only [Act.put, List.setIfInBounds_toArray, List.set_cons_zero, List.set_cons_succ])
                  refine' wpAnyH_take (i := 30) (oi := _) (v := _) ?hit72 ?hst72 ?hft72 ?hrt72 ?hQt72 ?hyt72 ?hSt72 ?_
                  case hit72 => (simp only [List.getElem?_toArray, List.getElem?_cons_succ, List.getElem?_cons_zero]; rfl)
                  case hst72 => kernel_rfl
                  case hft72 => kernel_rfl
                  case hrt72 => kernel_rfl
                  case hQt72 => exact fun _ _ _ h => h
                  case hSt72 => assumption
                  case hyt72 =>
                    refine Or.inl ⟨by rfl, ?_⟩
                    intro w hSw
                    (try dsimp only at hSw)
                    go_simp
                    all_goals (with_reducible rfl)
                  (try simp only [Act.put, List.setIfInBounds_toArray, List.set_cons_zero, List.set_cons_succ])
                  refine wpAnyH_done (by kernel_rfl) ?_ _
                  clear hHeld
                  go_wp2_with fail
                  go_meet
                  exact ⟨rfl, H69.out⟩
  case rest =>
    obtain ⟨rfl, hcut⟩ := hcut
    generalize wc = W7 at *
    have HC := Lib.hid hcut
    clear hcut
    have HP7 := Lib.hid (HPW.out.old HC.out)
    have HB7 := Lib.hid (HB.out.trans (HC.out.mono HB.out.size))
    have eA := Lib.hid (eA.out.old HC.out)
    have eY := Lib.hid (eY.out.old HC.out)
    clear eR fA fR HC
    go_upto_region 9 with fail
    rcases hbb12.out with ⟨hx1, hx2⟩ | ⟨hx1, hx2⟩
    · clear hbb12
      subst hx1 hx2
      refine wp_region_held_drew (S := fun V => Below W7.heap.size W7 V) (by kernel_rfl) (Below.refl _ _).drew (fun hHeld => ?_)
      have HBW7 := Lib.hid ((Below.refl W7.heap.size W7).drew)
      generalize W7.drew = VW7 at *
      refine' wpAnyH_take (i := 0) (oi := _) (v := .agg (limA va)) ?hit73 ?hst73 ?hft73 ?hrt73 ?hQt73 ?hyt73 ?hSt73 ?_
      case hit73 => (simp only [List.getElem?_toArray, List.getElem?_cons_succ, List.getElem?_cons_zero]; rfl)
      case hst73 => kernel_rfl
      case hft73 => kernel_rfl
      case hrt73 => kernel_rfl
      case hQt73 => exact fun _ _ _ h => h
      case hSt73 => assumption
      case hyt73 =>
        refine Or.inl ⟨by rfl, ?_⟩
        intro W hS
        exact quiet_load_row 28 (.tmp 3) _ rfl 28 (limA va) _ (eA.out.old hS) Tryd.underlying28 rfl oa.out.1 rfl
      (try simp only [Act.put, List.setIfInBounds_toArray, List.set_cons_zero, List.set_cons_succ])
      refine' wpAnyH_take (i := 1) (oi := _) (v := .agg (limA y)) ?hit74 ?hst74 ?hft74 ?hrt74 ?hQt74 ?hyt74 ?hSt74 ?_
      case hit74 => (simp only [List.getElem?_toArray, List.getElem?_cons_succ, List.getElem?_cons_zero]; rfl)
      case hst74 => kernel_rfl
      case hft74 => kernel_rfl
      case hrt74 => kernel_rfl
      case hQt74 => exact fun _ _ _ h => h
      case hSt74 => assumption
      case hyt74 =>
        refine Or.inl ⟨by rfl, ?_⟩
        intro W hS
        exact quiet_load_row 28 (.tmp 6) _ rfl 28 (limA y) _ (eY.out.old hS) Tryd.underlying28 rfl oy.out.1 rfl
      (try simp only [Act.put, List.setIfInBounds_toArray, List.set_cons_zero, List.set_cons_succ])
      refine' wpAnyH_take (i := 5) (oi := _) (v := .agg (limA va)) ?hit75 ?hst75 ?hft75 ?hrt75 ?hQt75 ?hyt75 ?hSt75 ?_
      case hit75 => (simp only [List.getElem?_toArray, List.getElem?_cons_succ, List.getElem?_cons_zero]; rfl)
      case hst75 => kernel_rfl
      case hft75 => kernel_rfl
      case hrt75 => kernel_rfl
      case hQt75 => exact fun _ _ _ h => h
      case hSt75 => assumption
      case hyt75 =>
        refine Or.inl ⟨by rfl, ?_⟩
        intro W hS
        exact quiet_load_row 28 (.tmp 3) _ rfl 28 (limA va) _ (eA.out.old hS) Tryd.underlying28 rfl oa.out.1 rfl
      (try simp only [Act.put, List.setIfInBounds_toArray, List.set_cons_zero, List.set_cons_succ])
      refine' wpAnyH_take (i := 6) (oi := _) (v := _) ?hit76 ?hst76 ?hft76 ?hrt76 ?hQt76 ?hyt76 ?hSt76 ?_
      case hit76 => (simp only [List.getElem?_toArray, List.getElem?_cons_succ, List.getElem?_cons_zero]; rfl)
      case hst76 => kernel_rfl
      case hft76 => kernel_rfl
      case hrt76 => kernel_rfl
      case hQt76 => exact fun _ _ _ h => h
      case hSt76 => assumption
      case hyt76 =>
        refine Or.inl ⟨by rfl, ?_⟩
        intro w hSw
        (try dsimp only at hSw)
        go_simp
        all_goals (with_reducible rfl)
      (try simp only [Act.put, List.setIfInBounds_toArray, List.set_cons_zero, List.set_cons_succ])
      refine wpAnyH_ready (rs := [2]) (by kernel_rfl) (by simp) ?_
      refine' (AllReadyH.cons (o := _) ?hir77_2 (fun K hK => ?br77_2) AllReadyH.nil)
      case hir77_2 => (simp only [List.getElem?_toArray, List.getElem?_cons_succ, List.getElem?_cons_zero]; rfl)
      case br77_2 =>
        go_simp
        refine (CXY.out _ (HP7.out.old HBW7.out)).mono ?_
        rintro e w78 ⟨rfl, hb78⟩
        have H78 := Lib.hid (HBW7.out.trans (hb78.mono HBW7.out.size))
        clear hb78
        go_wp2_with fail
        refine hK.out _ _ ?_ (fun hHeld => ?_)
        exact H78.out
        clear hK K
        (try simp only [Act.put, List.setIfInBounds_toArray, List.set_cons_zero, List.set_cons_succ])
        refine wpAnyH_ready (rs := [3]) (by kernel_rfl) (by simp) ?_
        refine' (AllReadyH.cons (o := _) ?hir79_3 (fun K hK => ?br79_3) AllReadyH.nil)
        case hir79_3 => (simp only [List.getElem?_toArray, List.getElem?_cons_succ, List.getElem?_cons_zero]; rfl)
        case br79_3 =>
          go_simp
          refine (C1.out _).mono ?_
          rintro e w80 ⟨rfl, hb80⟩
          have H80 := Lib.hid (H78.out.trans (hb80.mono H78.out.size))
          clear hb80
          go_wp2_with fail
          refine hK.out _ _ ?_ (fun hHeld => ?_)
          exact H80.out
          clear hK K
          (try simp only [Act.put, List.setIfInBounds_toArray, List.set_cons_zero, List.set_cons_succ])
          refine wpAnyH_ready (rs := [4]) (by kernel_rfl) (by simp) ?_
          refine' (AllReadyH.cons (o := _) ?hir81_4 (fun K hK => ?br81_4) AllReadyH.nil)
          case hir81_4 => (simp only [List.getElem?_toArray, List.getElem?_cons_succ, List.getElem?_cons_zero]; rfl)
          case br81_4 =>
            go_simp
            refine (CX1.out _).mono ?_
            rintro e w82 ⟨rfl, hb82⟩
            have H82 := Lib.hid (H80.out.trans (hb82.mono H80.out.size))
            clear hb82
            go_wp2_with fail
            refine hK.out _ _ ?_ (fun hHeld => ?_)
            exact H82.out
            clear hK K
            (try simp only [Act.put, List.setIfInBounds_toArray, List.set_cons_zero, List.set_cons_succ])
            refine wpAnyH_ready (rs := [7]) (by kernel_rfl) (by simp) ?_
            refine' (AllReadyH.cons (o := _) ?hir83_7 (fun K hK => ?br83_7) AllReadyH.nil)
            case hir83_7 => (simp only [List.getElem?_toArray, List.getElem?_cons_succ, List.getElem?_cons_zero]; rfl)
            case br83_7 =>
              go_simp
              refine (CX2.out _).mono ?_
              rintro e w84 ⟨rfl, hb84⟩
              have H84 := Lib.hid (H82.out.trans (hb84.mono H82.out.size))
              clear hb84
              go_wp2_with fail
              refine hK.out _ _ ?_ (fun hHeld => ?_)
              exact H84.out
              clear hK K
              (try simp only [Act.put, List.setIfInBounds_toArray, List.set_cons_zero, List.set_cons_succ])
              refine' wpAnyH_take (i := 8) (oi := _) (v := _) ?hit85 ?hst85 ?hft85 ?hrt85 ?hQt85 ?hyt85 ?hSt85 ?_
              case hit85 => (simp only [List.getElem?_toArray, List.getElem?_cons_succ, List.getElem?_cons_zero]; rfl)
              case hst85 => kernel_rfl
              case hft85 => kernel_rfl
              case hrt85 => kernel_rfl
              case hQt85 => exact fun _ _ _ h => h
              case hSt85 => assumption
              case hyt85 =>
                refine Or.inl ⟨by rfl, ?_⟩
                intro w hSw
                (try dsimp only at hSw)
                go_simp
                all_goals (with_reducible rfl)
              (try simp only [Act.put, List.setIfInBounds_toArray, List.set_cons_zero, List.set_cons_succ])
              refine' wpAnyH_take (i := 9) (oi := _) (v := _) ?hit86 ?hst86 ?hft86 ?hrt86 ?hQt86 ?hyt86 ?hSt86 ?_
              case hit86 => (simp only [List.getElem?_toArray, List.getElem?_cons_succ, List.getElem?_cons_zero]; rfl)
              case hst86 => kernel_rfl
              case hft86 => kernel_rfl
              case hrt86 => kernel_rfl
              case hQt86 => exact fun _ _ _ h => h
              case hSt86 => assumption
              case hyt86 =>
                refine Or.inl ⟨by rfl, ?_⟩
                intro w hSw
                (try dsimp only at hSw)
                go_simp
                all_goals (with_reducible rfl)
              (try simp only [Act.put, List.setIfInBounds_toArray, List.set_cons_zero, List.set_cons_succ])
              refine' wpAnyH_take (i := 10) (oi := _) (v := _) ?hit87 ?hst87 ?hft87 ?hrt87 ?hQt87 ?hyt87 ?hSt87 ?_
              case hit87 => (simp only [List.getElem?_toArray, List.getElem?_cons_succ, List.getElem?_cons_zero]; rfl)
              case hst87 => kernel_rfl
              case hft87 => kernel_rfl
              case hrt87 => kernel_rfl
              case hQt87 => exact fun _ _ _ h => h
              case hSt87 => assumption
              case hyt87 =>
                refine Or.inl ⟨by rfl, ?_⟩
                intro w hSw
                (try dsimp only at hSw)
                go_simp
                all_goals (with_reducible rfl)
              (try simp only [Act.put, List.setIfInBounds_toArray, List.set_cons_zero, List.set_cons_succ])
              refine wpAnyH_ready (rs := [11]) (by kernel_rfl) (by simp) ?_
              refine' (AllReadyH.cons (o := _) ?hir88_11 (fun K hK => ?br88_11) AllReadyH.nil)
              case hir88_11 => (simp only [List.getElem?_toArray, List.getElem?_cons_succ, List.getElem?_cons_zero]; rfl)
              case br88_11 =>
                go_simp
                refine (awake_any _ (HP7.out.old H84.out)).mono ?_
                rintro e w89 ⟨rfl, hb89⟩
                have H89 := Lib.hid (H84.out.trans (hb89.mono H84.out.size))
                clear hb89
                go_wp2_with fail
                refine hK.out _ _ ?_ (fun hHeld => ?_)
                exact H89.out
                clear hK K
                (try simp only [Act.put, List.setIfInBounds_toArray, List.set_cons_zero, List.set_cons_succ])
                refine' wpAnyH_take (i := 12) (oi := _) (v := _) ?hit90 ?hst90 ?hft90 ?hrt90 ?hQt90 ?hyt90 ?hSt90 ?_
                case hit90 => (simp only [List.getElem?_toArray, List.getElem?_cons_succ, List.getElem?_cons_zero]; rfl)
                case hst90 => kernel_rfl
                case hft90 => kernel_rfl
                case hrt90 => kernel_rfl
                case hQt90 => exact fun _ _ _ h => h
                case hSt90 => assumption
                case hyt90 =>
                  refine Or.inl ⟨by rfl, ?_⟩
                  intro w hSw
                  (try dsimp only at hSw)
                  go_simp
                  all_goals (with_reducible rfl)
                (try simp only [Act.put, List.setIfInBounds_toArray, List.set_cons_zero, List.set_cons_succ])
                refine' wpAnyH_take (i := 13) (oi := _) (v := _) ?hit91 ?hst91 ?hft91 ?hrt91 ?hQt91 ?hyt91 ?hSt91 ?_
                case hit91 => (simp only [List.getElem?_toArray, List.getElem?_cons_succ, List.getElem?_cons_zero]; rfl)
                case hst91 => kernel_rfl
                case hft91 => kernel_rfl
                case hrt91 => kernel_rfl
                case hQt91 => exact fun _ _ _ h => h
                case hSt91 => assumption
                case hyt91 =>
                  refine Or.inl ⟨by rfl, ?_⟩
                  intro w hSw
                  (try dsimp only at hSw)
                  go_simp
                  all_goals (with_reducible rfl)
                (try simp only [Act.put, List.setIfInBounds_toArray, List.set_cons_zero, List.set_cons_succ])
                refine wpAnyH_done (by kernel_rfl) ?_ _
                have hbe := Lib.hid (HB7.out.trans (H89.out.mono HB7.out.size))
                clear hHeld
                go_wp2_with fail
                go_ret
                exact ⟨rfl, hbe.out⟩
    · clear hbb12
      subst hx1 hx2
      refine wp_region_held_drew (S := fun V => Below W7.heap.size W7 V) (by kernel_rfl) (Below.refl _ _).drew (fun hHeld => ?_)
      have HBW7 := Lib.hid ((Below.refl W7.heap.size W7).drew)
      generalize W7.drew = VW7 at *
      refine' wpAnyH_take (i := 0) (oi := _) (v := .agg (limA va)) ?hit92 ?hst92 ?hft92 ?hrt92 ?hQt92 ?hyt92 ?hSt92 ?_
      case hit92 => (simp only [List.getElem?_toArray, List.getElem?_cons_succ, List.getElem?_cons_zero]; rfl)
      case hst92 => kernel_rfl
      case hft92 => kernel_rfl
      case hrt92 => kernel_rfl
      case hQt92 => exact fun _ _ _ h => h
      case hSt92 => assumption
      case hyt92 =>
        refine Or.inl ⟨by rfl, ?_⟩
        intro W hS
        exact quiet_load_row 28 (.tmp 3) _ rfl 28 (limA va) _ (eA.out.old hS) Tryd.underlying28 rfl oa.out.1 rfl
      (try simp only [Act.put, List.setIfInBounds_toArray, List.set_cons_zero, List.set_cons_succ])
      refine' wpAnyH_take (i := 1) (oi := _) (v := .agg (limA y)) ?hit93 ?hst93 ?hft93 ?hrt93 ?hQt93 ?hyt93 ?hSt93 ?_
      case hit93 => (simp only [List.getElem?_toArray, List.getElem?_cons_succ, List.getElem?_cons_zero]; rfl)
      case hst93 => kernel_rfl
      case hft93 => kernel_rfl
      case hrt93 => kernel_rfl
      case hQt93 => exact fun _ _ _ h => h
      case hSt93 => assumption
      case hyt93 =>
        refine Or.inl ⟨by rfl, ?_⟩
        intro W hS
        exact quiet_load_row 28 (.tmp 6) _ rfl 28 (limA y) _ (eY.out.old hS) Tryd.underlying28 rfl oy.out.1 rfl
      (try simp only [Act.put, List.setIfInBounds_toArray, List.set_cons_zero, List.set_cons_succ])
      refine' wpAnyH_take (i := 5) (oi := _) (v := .agg (limA va)) ?hit94 ?hst94 ?hft94 ?hrt94 ?hQt94 ?hyt94 ?hSt94 ?_
      case hit94 => (simp only [List.getElem?_toArray, List.getElem?_cons_succ, List.getElem?_cons_zero]; rfl)
      case hst94 => kernel_rfl
      case hft94 => kernel_rfl
      case hrt94 => kernel_rfl
      case hQt94 => exact fun _ _ _ h => h
      case hSt94 => assumption
      case hyt94 =>
        refine Or.inl ⟨by rfl, ?_⟩
        intro W hS
        exact quiet_load_row 28 (.tmp 3) _ rfl 28 (limA va) _ (eA.out.old hS) Tryd.underlying28 rfl oa.out.1 rfl
      (try simp only [Act.put, List.setIfInBounds_toArray, List.set_cons_zero, List.set_cons_succ])
      refine' wpAnyH_take (i := 6) (oi := _) (v := _) ?hit95 ?hst95 ?hft95 ?hrt95 ?hQt95 ?hyt95 ?hSt95 ?_
      case hit95 => (simp only [List.getElem?_toArray, List.getElem?_cons_succ, List.getElem?_cons_zero]; rfl)
      case hst95 => kernel_rfl
      case hft95 => kernel_rfl
      case hrt95 => kernel_rfl
      case hQt95 => exact fun _ _ _ h => h
      case hSt95 => assumption
      case hyt95 =>
        refine Or.inl ⟨by rfl, ?_⟩
        intro w hSw
        (try dsimp only at hSw)
        go_simp
        all_goals (with_reducible rfl)
      (try simp only [Act.put, List.setIfInBounds_toArray, List.set_cons_zero, List.set_cons_succ])
      refine wpAnyH_ready (rs := [2]) (by kernel_rfl) (by simp) ?_
      refine' (AllReadyH.cons (o := _) ?hir96_2 (fun K hK => ?br96_2) AllReadyH.nil)
      case hir96_2 => (simp only [List.getElem?_toArray, List.getElem?_cons_succ, List.getElem?_cons_zero]; rfl)
      case br96_2 =>
        go_simp
        refine (CXY.out _ (HP7.out.old HBW7.out)).mono ?_
        rintro e w97 ⟨rfl, hb97⟩
        have H97 := Lib.hid (HBW7.out.trans (hb97.mono HBW7.out.size))
        clear hb97
        go_wp2_with fail
        refine hK.out _ _ ?_ (fun hHeld => ?_)
        exact H97.out
        clear hK K
        (try simp only [Act.put, List.setIfInBounds_toArray, List.set_cons_zero, List.set_cons_succ])
        refine wpAnyH_ready (rs := [3]) (by kernel_rfl) (by simp) ?_
        refine' (AllReadyH.cons (o := _) ?hir98_3 (fun K hK => ?br98_3) AllReadyH.nil)
        case hir98_3 => (simp only [List.getElem?_toArray, List.getElem?_cons_succ, List.getElem?_cons_zero]; rfl)
        case br98_3 =>
          go_simp
          refine (C1.out _).mono ?_
          rintro e w99 ⟨rfl, hb99⟩
          have H99 := Lib.hid (H97.out.trans (hb99.mono H97.out.size))
          clear hb99
          go_wp2_with fail
          refine hK.out _ _ ?_ (fun hHeld => ?_)
          exact H99.out
          clear hK K
          (try simp only [Act.put, List.setIfInBounds_toArray, List.set_cons_zero, List.set_cons_succ])
          refine wpAnyH_ready (rs := [4]) (by kernel_rfl) (by simp) ?_
          refine' (AllReadyH.cons (o := _) ?hir100_4 (fun K hK => ?br100_4) AllReadyH.nil)
          case hir100_4 => (simp only [List.getElem?_toArray, List.getElem?_cons_succ, List.getElem?_cons_zero]; rfl)
          case br100_4 =>
            go_simp
            refine (CX1.out _).mono ?_
            rintro e w101 ⟨rfl, hb101⟩
            have H101 := Lib.hid (H99.out.trans (hb101.mono H99.out.size))
            clear hb101
            go_wp2_with fail
            refine hK.out _ _ ?_ (fun hHeld => ?_)
            exact H101.out
            clear hK K
            (try simp only [Act.put, List.setIfInBounds_toArray, List.set_cons_zero, List.set_cons_succ])
            refine wpAnyH_ready (rs := [7]) (by kernel_rfl) (by simp) ?_
            refine' (AllReadyH.cons (o := _) ?hir102_7 (fun K hK => ?br102_7) AllReadyH.nil)
            case hir102_7 => (simp only [List.getElem?_toArray, List.getElem?_cons_succ, List.getElem?_cons_zero]; rfl)
            case br102_7 =>
              go_simp
              refine (CX2.out _).mono ?_
              rintro e w103 ⟨rfl, hb103⟩
              have H103 := Lib.hid (H101.out.trans (hb103.mono H101.out.size))
              clear hb103
              go_wp2_with fail
              refine hK.out _ _ ?_ (fun hHeld => ?_)
              exact H103.out
              clear hK K
              (try simp only [Act.put, List.setIfInBounds_toArray, List.set_cons_zero, List.set_cons_succ])
              refine' wpAnyH_take (i := 8) (oi := _) (v := _) ?hit104 ?hst104 ?hft104 ?hrt104 ?hQt104 ?hyt104 ?hSt104 ?_
              case hit104 => (simp only [List.getElem?_toArray, List.getElem?_cons_succ, List.getElem?_cons_zero]; rfl)
              case hst104 => kernel_rfl
              case hft104 => kernel_rfl
              case hrt104 => kernel_rfl
              case hQt104 => exact fun _ _ _ h => h
              case hSt104 => assumption
              case hyt104 =>
                refine Or.inl ⟨by rfl, ?_⟩
                intro w hSw
                (try dsimp only at hSw)
                go_simp
                all_goals (with_reducible rfl)
              (try simp only [Act.put, List.setIfInBounds_toArray, List.set_cons_zero, List.set_cons_succ])
              refine' wpAnyH_take (i := 9) (oi := _) (v := _) ?hit105 ?hst105 ?hft105 ?hrt105 ?hQt105 ?hyt105 ?hSt105 ?_
              case hit105 => (simp only [List.getElem?_toArray, List.getElem?_cons_succ, List.getElem?_cons_zero]; rfl)
              case hst105 => kernel_rfl
              case hft105 => kernel_rfl
              case hrt105 => kernel_rfl
              case hQt105 => exact fun _ _ _ h => h
              case hSt105 => assumption
              case hyt105 =>
                refine Or.inl ⟨by rfl, ?_⟩
                intro w hSw
                (try dsimp only at hSw)
                go_simp
                all_goals (with_reducible rfl)
              (try simp only [Act.put, List.setIfInBounds_toArray, List.set_cons_zero, List.set_cons_succ])
              refine' wpAnyH_take (i := 10) (oi := _) (v := _) ?hit106 ?hst106 ?hft106 ?hrt106 ?hQt106 ?hyt106 ?hSt106 ?_
              case hit106 => (simp only [List.getElem?_toArray, List.getElem?_cons_succ, List.getElem?_cons_zero]; rfl)
              case hst106 => kernel_rfl
              case hft106 => kernel_rfl
              case hrt106 => kernel_rfl
              case hQt106 => exact fun _ _ _ h => h
              case hSt106 => assumption
              case hyt106 =>
                refine Or.inl ⟨by rfl, ?_⟩
                intro w hSw
                (try dsimp only at hSw)
                go_simp
                all_goals (with_reducible rfl)
              (try simp only [Act.put, List.setIfInBounds_toArray, List.set_cons_zero, List.set_cons_succ])
              refine wpAnyH_ready (rs := [11]) (by kernel_rfl) (by simp) ?_
              refine' (AllReadyH.cons (o := _) ?hir107_11 (fun K hK => ?br107_11) AllReadyH.nil)
              case hir107_11 => (simp only [List.getElem?_toArray, List.getElem?_cons_succ, List.getElem?_cons_zero]; rfl)
              case br107_11 =>
                go_simp
                refine (awake_any _ (HP7.out.old H103.out)).mono ?_
                rintro e w108 ⟨rfl, hb108⟩
                have H108 := Lib.hid (H103.out.trans (hb108.mono H103.out.size))
                clear hb108
                go_wp2_with fail
                refine hK.out _ _ ?_ (fun hHeld => ?_)
                exact H108.out
                clear hK K
                (try simp only [Act.put, List.setIfInBounds_toArray, List.set_cons_zero, List.set_cons_succ])
                refine' wpAnyH_take (i := 12) (oi := _) (v := _) ?hit109 ?hst109 ?hft109 ?hrt109 ?hQt109 ?hyt109 ?hSt109 ?_
                case hit109 => (simp only [List.getElem?_toArray, List.getElem?_cons_succ, List.getElem?_cons_zero]; rfl)
                case hst109 => kernel_rfl
                case hft109 => kernel_rfl
                case hrt109 => kernel_rfl
                case hQt109 => exact fun _ _ _ h => h
                case hSt109 => assumption
                case hyt109 =>
                  refine Or.inl ⟨by rfl, ?_⟩
                  intro w hSw
                  (try dsimp only at hSw)
                  go_simp
                  all_goals (with_reducible rfl)
                (try simp only [Act.put, List.setIfInBounds_toArray, List.set_cons_zero, List.set_cons_succ])
                refine' wpAnyH_take (i := 13) (oi := _) (v := _) ?hit110 ?hst110 ?hft110 ?hrt110 ?hQt110 ?hyt110 ?hSt110 ?_
                case hit110 => (simp only [List.getElem?_toArray, List.getElem?_cons_succ, List.getElem?_cons_zero]; rfl)
                case hst110 => kernel_rfl
                case hft110 => kernel_rfl
                case hrt110 => kernel_rfl
                case hQt110 => exact fun _ _ _ h => h
                case hSt110 => assumption
                case hyt110 =>
                  refine Or.inl ⟨by rfl, ?_⟩
                  intro w hSw
                  (try dsimp only at hSw)
                  go_simp
                  all_goals (with_reducible rfl)
                (try simp only [Act.put, List.setIfInBounds_toArray, List.set_cons_zero, List.set_cons_succ])
                refine wpAnyH_done (by kernel_rfl) ?_ _
                have hbe := Lib.hid (HB7.out.trans (H108.out.mono HB7.out.size))
                clear hHeld
                go_wp2_with fail
                go_ret
                exact ⟨rfl, hbe.out⟩
end Go.Proofs.YtphlehinjooncaaDoor
