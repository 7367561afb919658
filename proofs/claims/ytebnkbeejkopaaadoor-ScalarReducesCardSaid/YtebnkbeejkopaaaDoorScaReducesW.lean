/-
  The walk of the law ScalarReduces. Condition: the program's numbers modulo L are as they must be.
-/
import Derived.Test.YtebnkbeejkopaaaDoorScaAwake
set_option linter.unusedVariables false
set_option linter.unusedSimpArgs false
namespace Go.Proofs.YtebnkbeejkopaaaDoor
open Go Go.Proofs Go.RowKit F5

theorem mayB_rest (x : Nat) : mayB (fbytes (x % LL)) = true := by
  have hl : x % LL < LL := Nat.mod_lt _ LL_pos
  exact decide_eq_true ⟨fbytes_length _, by rw [bval_fbytes (Nat.lt_trans hl LL_256)]; exact hl⟩

set_option maxHeartbeats 8000000 in
set_option maxRecDepth 100000 in
theorem reduces_walk {Q : World → Prop} (H : ScaOk Q) (A : Option Addr) (n c : Nat) (l : List UInt8) (w : World) (hr : Reads w w.heap.size 1 A n (Lib.byteCells l)) (hnc : n ≤ c) (hm : c ≤ maxLen) (hQ : Q w) :
    Calls Tryd.prog 3 #[.slice A n c] w fun e w' => e = .returned (.bool true) ∧ Below w.heap.size w w' := by
  obtain ⟨z, hz⟩ : ∃ z, Hid (z = bytesA (List.replicate 32 0)) := ⟨_, Lib.hid rfl⟩
  have hz0 : ∀ W, (zeroValue 24).run Tryd.prog W = .ok (.agg z) W := by
    rw [hz.out]; exact (zero_of_info (n := 32) (by kernel_rfl)).1
  have HR := Lib.hid hr
  have HQ := Lib.hid hQ
  have HM := Lib.hid hm
  have HB := Lib.hid (Below.refl w.heap.size w)
  clear hr hQ hm
  by_cases hn : 100 < n
  · have hn' : (100 : Int) < (n : Int) := by omega
    go_enter Tryd.func3, Tryd.ntmps3
    go_wp2_with fail
    refine (awake6_any H _ (H.old HQ.out HB.out)).mono ?_
    rintro e w3 ⟨rfl, hbb⟩
    have hbe := Lib.hid (HB.out.trans (hbb.mono HB.out.size))
    clear hbb
    go_wp2
    go_ret
    exact ⟨rfl, hbe.out⟩
  have hn' : ¬ (100 : Int) < (n : Int) := by omega
  have CR : Hid (∀ V, Reads V V.heap.size 1 A n (Lib.byteCells l) → Q V → Calls Tryd.prog 8 #[.slice A n c] V fun e w' => e = .returned (.agg (bytesA (fbytes (bval l % LL)))) ∧ Below V.heap.size V w') := Lib.hid fun V h1 h2 => H.reduce A n c l V (by omega) hnc HM.out h1 h2
  have CRR : Hid (∀ V, Reads V V.heap.size 1 A n (Lib.byteCells l) → Calls Tryd.prog 9 #[.slice A n c] V (Byt32 (bval l % LL) V)) := Lib.hid fun V h1 => reduce_any A n c l V (by omega) h1
  have CM : Hid (∀ V, Reads V V.heap.size 1 A n (Lib.byteCells l) → Q V → Calls Tryd.prog 10 #[.slice A n c] V fun e w' => e = .returned (.bool (mayB l)) ∧ Below V.heap.size V w') := Lib.hid fun V h1 h2 => H.may A n c l V (by omega) hnc HM.out h1 h2
  have CRM : Hid (∀ V, Reads V V.heap.size 1 A n (Lib.byteCells l) → Calls Tryd.prog 11 #[.slice A n c] V fun e w' => e = .returned (.bool (mayB l)) ∧ Below V.heap.size V w') := Lib.hid fun V h1 => may_any A n c l V (by omega) h1
  have hmr := mayB_rest (bval l)
  obtain ⟨v, hv⟩ := named (bval l % LL)
  rw [← hv.out] at CR CRR hmr
  have CMR : Hid (∀ g V, Reads V V.heap.size 1 (some ⟨g, 0, none⟩) 32 (Lib.byteCells (fbytes v)) → Q V → Calls Tryd.prog 10 #[.slice (some ⟨g, 0, none⟩) 32 32] V fun e w' => e = .returned (.bool true) ∧ Below V.heap.size V w') := Lib.hid fun g V h1 h2 => by
    have := H.may (some ⟨g, 0, none⟩) 32 32 (fbytes v) V (by omega) (by omega) (by unfold maxLen; omega) h1 h2
    rwa [hmr] at this
  obtain ⟨bm, hbm⟩ : ∃ b, Hid (b = mayB l) := ⟨_, Lib.hid rfl⟩
  rw [← hbm.out] at CM CRM
  have okv : Hid ((Tryd.prog.info? 24).map (·.size) = some (bytesA (fbytes v)).size ∧ (bytesA (fbytes v)).all (·.oneCell') = true ∧ z.size = (bytesA (fbytes v)).size) := Lib.hid ⟨fbytes_info _, bytesA_one _, by rw [hz.out, bytesA_size, bytesA_size, fbytes_length]; rfl⟩
  clear hmr hn hbm hv
  go_enter Tryd.func3, Tryd.ntmps3
  go_upto_region 4 with fail
  refine (CR.out _ HR.out HQ.out).mono ?_
  rintro e w1 ⟨rfl, hb1⟩
  have hb2 := hb1.trans ((below_new1 w1 (.cells (bytesA (fbytes v)) 24)).mono hb1.size)
  have eS := Lib.hid (Blk.new w1 24 (bytesA (fbytes v)))
  have HB := Lib.hid hb2
  have HR1 := Lib.hid ((HR.out.below hb2).more hb2.size)
  have HQ1 := Lib.hid (H.old HQ.out hb2)
  clear hb1 hb2
  go_upto_region 4 with (first | (refine wpList_store_row rfl 24 (.tmp 3) (.tmp 9) rfl w1.heap.size (bytesA (fbytes v)) rfl rfl 24 z (heap_alloc_new w1 _) okv.out.1 okv.out.2.2 okv.out.2.1 ?_; rw [setRow_alloc1]))
  generalize w1.alloc (.cells (bytesA (fbytes v)) 24) = W1 at *
  generalize w1.heap.size = g3 at *
  have hsl := slice32 g3
  have HRS : Hid (∀ V, Below W1.heap.size W1 V → Reads V V.heap.size 1 (some ⟨g3, 0, none⟩) 32 (Lib.byteCells (fbytes v))) := Lib.hid fun V hV => by
    have := reads_blk (eS.out.old hV)
    rwa [fbytes_length] at this
  clear hz0
  (try simp only [Act.put, List.setIfInBounds_toArray, List.set_cons_zero, List.set_cons_succ])
  refine wp_region_held_drew (S := fun V => Below W1.heap.size W1 V) (by kernel_rfl) (Below.refl _ _).drew (fun hHeld => ?_)
  have HBW1 := Lib.hid ((Below.refl W1.heap.size W1).drew)
  generalize W1.drew = VW1 at *
  refine' wpAnyH_take (i := 0) (oi := _) (v := _) ?hit1 ?hst1 ?hft1 ?hrt1 ?hQt1 ?hyt1 ?hSt1 ?_
  case hit1 => (simp only [List.getElem?_toArray, List.getElem?_cons_succ, List.getElem?_cons_zero]; rfl)
  case hst1 => kernel_rfl
  case hft1 => kernel_rfl
  case hrt1 => kernel_rfl
  case hQt1 => exact fun _ _ _ h => h
  case hSt1 => assumption
  case hyt1 =>
    refine Or.inl ⟨by rfl, ?_⟩
    intro w hSw
    (try dsimp only at hSw)
    go_simp
    all_goals (with_reducible rfl)
  (try simp only [Act.put, List.setIfInBounds_toArray, List.set_cons_zero, List.set_cons_succ])
  refine' wpAnyH_take (i := 1) (oi := _) (v := .string ⟨(fbytes v).toArray⟩) ?hit2 ?hst2 ?hft2 ?hrt2 ?hQt2 ?hyt2 ?hSt2 ?_
  case hit2 => (simp only [List.getElem?_toArray, List.getElem?_cons_succ, List.getElem?_cons_zero]; rfl)
  case hst2 => kernel_rfl
  case hft2 => kernel_rfl
  case hrt2 => kernel_rfl
  case hQt2 => exact fun _ _ _ h => h
  case hSt2 => assumption
  case hyt2 =>
    refine Or.inl ⟨by rfl, ?_⟩
    intro W hS
    exact quiet_back (.tmp 10) (some ⟨g3, 0, none⟩) 32 32 _ (fbytes v) rfl (HRS.out W hS) rfl
  (try simp only [Act.put, List.setIfInBounds_toArray, List.set_cons_zero, List.set_cons_succ])
  refine' wpAnyH_take (i := 2) (oi := _) (v := _) ?hit3 ?hst3 ?hft3 ?hrt3 ?hQt3 ?hyt3 ?hSt3 ?_
  case hit3 => (simp only [List.getElem?_toArray, List.getElem?_cons_succ, List.getElem?_cons_zero]; rfl)
  case hst3 => kernel_rfl
  case hft3 => kernel_rfl
  case hrt3 => kernel_rfl
  case hQt3 => exact fun _ _ _ h => h
  case hSt3 => assumption
  case hyt3 =>
    refine Or.inl ⟨by rfl, ?_⟩
    intro w hSw
    (try dsimp only at hSw)
    go_simp
    all_goals (with_reducible rfl)
  (try simp only [Act.put, List.setIfInBounds_toArray, List.set_cons_zero, List.set_cons_succ])
  refine wpAnyH_ready (rs := [3]) (by kernel_rfl) (by simp) ?_
  refine' (AllReadyH.cons (o := _) ?hir4_3 (fun K hK => ?br4_3) AllReadyH.nil)
  case hir4_3 => (simp only [List.getElem?_toArray, List.getElem?_cons_succ, List.getElem?_cons_zero]; rfl)
  case br4_3 =>
    go_simp
    refine (CRR.out _ ((HR1.out.below HBW1.out).more HBW1.out.size)).mono ?_
    rintro e w5 ⟨r5, rfl, ho5, hb5⟩
    obtain ⟨A5, c5, rfl, _⟩ := own_slice ho5
    have HRf := Lib.hid (Reads.of_own ho5)
    have H5 := Lib.hid (HBW1.out.trans (hb5.mono HBW1.out.size))
    clear ho5 hb5
    go_wp2_with fail
    refine hK.out _ _ ?_ (fun hHeld => ?_)
    exact H5.out
    clear hK K
    (try simp only [Act.put, List.setIfInBounds_toArray, List.set_cons_zero, List.set_cons_succ])
    refine wpAnyH_ready (rs := [4]) (by kernel_rfl) (by simp) ?_
    refine' (AllReadyH.cons (o := _) ?hir6_4 (fun K hK => ?br6_4) AllReadyH.nil)
    case hir6_4 => (simp only [List.getElem?_toArray, List.getElem?_cons_succ, List.getElem?_cons_zero]; rfl)
    case br6_4 =>
      refine step_of_wp rfl ?_
      refine wp_back (.tmp 13) _ 32 _ _ (fbytes v) rfl HRf.out rfl ?_
      refine hK.out _ _ ?_ (fun hHeld => ?_)
      exact H5.out
      clear hK K
      (try simp only [Act.put, List.setIfInBounds_toArray, List.set_cons_zero, List.set_cons_succ])
      refine' wpAnyH_take (i := 5) (oi := _) (v := _) ?hit8 ?hst8 ?hft8 ?hrt8 ?hQt8 ?hyt8 ?hSt8 ?_
      case hit8 => (simp only [List.getElem?_toArray, List.getElem?_cons_succ, List.getElem?_cons_zero]; rfl)
      case hst8 => kernel_rfl
      case hft8 => kernel_rfl
      case hrt8 => kernel_rfl
      case hQt8 => exact fun _ _ _ h => h
      case hSt8 => assumption
      case hyt8 =>
        refine Or.inl ⟨by rfl, ?_⟩
        intro w hSw
        (try dsimp only at hSw)
        go_simp
        all_goals (with_reducible rfl)
      (try simp only [Act.put, List.setIfInBounds_toArray, List.set_cons_zero, List.set_cons_succ])
      refine' wpAnyH_take (i := 6) (oi := _) (v := _) ?hit9 ?hst9 ?hft9 ?hrt9 ?hQt9 ?hyt9 ?hSt9 ?_
      case hit9 => (simp only [List.getElem?_toArray, List.getElem?_cons_succ, List.getElem?_cons_zero]; rfl)
      case hst9 => kernel_rfl
      case hft9 => kernel_rfl
      case hrt9 => kernel_rfl
      case hQt9 => exact fun _ _ _ h => h
      case hSt9 => assumption
      case hyt9 =>
        refine Or.inl ⟨by rfl, ?_⟩
        intro w hSw
        (try dsimp only at hSw)
        go_simp
        all_goals (with_reducible rfl)
      (try simp only [Act.put, List.setIfInBounds_toArray, List.set_cons_zero, List.set_cons_succ])
      refine' wpAnyH_take (i := 7) (oi := _) (v := _) ?hit10 ?hst10 ?hft10 ?hrt10 ?hQt10 ?hyt10 ?hSt10 ?_
      case hit10 => (simp only [List.getElem?_toArray, List.getElem?_cons_succ, List.getElem?_cons_zero]; rfl)
      case hst10 => kernel_rfl
      case hft10 => kernel_rfl
      case hrt10 => kernel_rfl
      case hQt10 => exact fun _ _ _ h => h
      case hSt10 => assumption
      case hyt10 =>
        refine Or.inl ⟨by rfl, ?_⟩
        intro w hSw
        (try dsimp only at hSw)
        go_simp
        all_goals (with_reducible rfl)
      (try simp only [Act.put, List.setIfInBounds_toArray, List.set_cons_zero, List.set_cons_succ])
      refine' wpAnyH_take (i := 9) (oi := _) (v := _) ?hit11 ?hst11 ?hft11 ?hrt11 ?hQt11 ?hyt11 ?hSt11 ?_
      case hit11 => (simp only [List.getElem?_toArray, List.getElem?_cons_succ, List.getElem?_cons_zero]; rfl)
      case hst11 => kernel_rfl
      case hft11 => kernel_rfl
      case hrt11 => kernel_rfl
      case hQt11 => exact fun _ _ _ h => h
      case hSt11 => assumption
      case hyt11 =>
        refine Or.inl ⟨by rfl, ?_⟩
        intro w hSw
        (try dsimp only at hSw)
        go_simp
        all_goals (with_reducible rfl)
      (try simp only [Act.put, List.setIfInBounds_toArray, List.set_cons_zero, List.set_cons_succ])
      refine wpAnyH_ready (rs := [8]) (by kernel_rfl) (by simp) ?_
      refine' (AllReadyH.cons (o := _) ?hir12_8 (fun K hK => ?br12_8) AllReadyH.nil)
      case hir12_8 => (simp only [List.getElem?_toArray, List.getElem?_cons_succ, List.getElem?_cons_zero]; rfl)
      case br12_8 =>
        go_simp
        refine (CM.out _ ((HR1.out.below H5.out).more H5.out.size) (H.old HQ1.out H5.out)).mono ?_
        rintro e w13 ⟨rfl, hb13⟩
        have H13 := Lib.hid (H5.out.trans (hb13.mono H5.out.size))
        clear hb13
        go_wp2_with fail
        refine hK.out _ _ ?_ (fun hHeld => ?_)
        exact H13.out
        clear hK K
        (try simp only [Act.put, List.setIfInBounds_toArray, List.set_cons_zero, List.set_cons_succ])
        refine wpAnyH_ready (rs := [10]) (by kernel_rfl) (by simp) ?_
        refine' (AllReadyH.cons (o := _) ?hir14_10 (fun K hK => ?br14_10) AllReadyH.nil)
        case hir14_10 => (simp only [List.getElem?_toArray, List.getElem?_cons_succ, List.getElem?_cons_zero]; rfl)
        case br14_10 =>
          go_simp
          refine (CRM.out _ ((HR1.out.below H13.out).more H13.out.size)).mono ?_
          rintro e w15 ⟨rfl, hb15⟩
          have H15 := Lib.hid (H13.out.trans (hb15.mono H13.out.size))
          clear hb15
          go_wp2_with fail
          refine hK.out _ _ ?_ (fun hHeld => ?_)
          exact H15.out
          clear hK K
          (try simp only [Act.put, List.setIfInBounds_toArray, List.set_cons_zero, List.set_cons_succ])
          refine' wpAnyH_take (i := 11) (oi := _) (v := _) ?hit16 ?hst16 ?hft16 ?hrt16 ?hQt16 ?hyt16 ?hSt16 ?_
          case hit16 => (simp only [List.getElem?_toArray, List.getElem?_cons_succ, List.getElem?_cons_zero]; rfl)
          case hst16 => kernel_rfl
          case hft16 => kernel_rfl
          case hrt16 => kernel_rfl
          case hQt16 => exact fun _ _ _ h => h
          case hSt16 => assumption
          case hyt16 =>
            refine Or.inl ⟨by rfl, ?_⟩
            intro w hSw
            (try dsimp only at hSw)
            go_simp
            all_goals (with_reducible rfl)
          (try simp only [Act.put, List.setIfInBounds_toArray, List.set_cons_zero, List.set_cons_succ])
          refine' wpAnyH_take (i := 12) (oi := _) (v := _) ?hit17 ?hst17 ?hft17 ?hrt17 ?hQt17 ?hyt17 ?hSt17 ?_
          case hit17 => (simp only [List.getElem?_toArray, List.getElem?_cons_succ, List.getElem?_cons_zero]; rfl)
          case hst17 => kernel_rfl
          case hft17 => kernel_rfl
          case hrt17 => kernel_rfl
          case hQt17 => exact fun _ _ _ h => h
          case hSt17 => assumption
          case hyt17 =>
            refine Or.inl ⟨by rfl, ?_⟩
            intro w hSw
            (try dsimp only at hSw)
            go_simp
            all_goals (with_reducible rfl)
          (try simp only [Act.put, List.setIfInBounds_toArray, List.set_cons_zero, List.set_cons_succ])
          refine' wpAnyH_take (i := 13) (oi := _) (v := _) ?hit18 ?hst18 ?hft18 ?hrt18 ?hQt18 ?hyt18 ?hSt18 ?_
          case hit18 => (simp only [List.getElem?_toArray, List.getElem?_cons_succ, List.getElem?_cons_zero]; rfl)
          case hst18 => kernel_rfl
          case hft18 => kernel_rfl
          case hrt18 => kernel_rfl
          case hQt18 => exact fun _ _ _ h => h
          case hSt18 => assumption
          case hyt18 =>
            refine Or.inl ⟨by rfl, ?_⟩
            intro w hSw
            (try dsimp only at hSw)
            go_simp
            all_goals (with_reducible rfl)
          (try simp only [Act.put, List.setIfInBounds_toArray, List.set_cons_zero, List.set_cons_succ])
          refine' wpAnyH_take (i := 14) (oi := _) (v := _) ?hit19 ?hst19 ?hft19 ?hrt19 ?hQt19 ?hyt19 ?hSt19 ?_
          case hit19 => (simp only [List.getElem?_toArray, List.getElem?_cons_succ, List.getElem?_cons_zero]; rfl)
          case hst19 => kernel_rfl
          case hft19 => kernel_rfl
          case hrt19 => kernel_rfl
          case hQt19 => exact fun _ _ _ h => h
          case hSt19 => assumption
          case hyt19 =>
            refine Or.inl ⟨by rfl, ?_⟩
            intro w hSw
            (try dsimp only at hSw)
            go_simp
            all_goals (with_reducible rfl)
          (try simp only [Act.put, List.setIfInBounds_toArray, List.set_cons_zero, List.set_cons_succ])
          refine wpAnyH_ready (rs := [15]) (by kernel_rfl) (by simp) ?_
          refine' (AllReadyH.cons (o := _) ?hir20_15 (fun K hK => ?br20_15) AllReadyH.nil)
          case hir20_15 => (simp only [List.getElem?_toArray, List.getElem?_cons_succ, List.getElem?_cons_zero]; rfl)
          case br20_15 =>
            go_simp
            refine (CMR.out _ _ (HRS.out _ H15.out) (H.old HQ1.out H15.out)).mono ?_
            rintro e w21 ⟨rfl, hb21⟩
            have H21 := Lib.hid (H15.out.trans (hb21.mono H15.out.size))
            clear hb21
            go_wp2_with fail
            refine hK.out _ _ ?_ (fun hHeld => ?_)
            exact H21.out
            clear hK K
            (try simp only [Act.put, List.setIfInBounds_toArray, List.set_cons_zero, List.set_cons_succ])
            refine' wpAnyH_take (i := 16) (oi := _) (v := _) ?hit22 ?hst22 ?hft22 ?hrt22 ?hQt22 ?hyt22 ?hSt22 ?_
            case hit22 => (simp only [List.getElem?_toArray, List.getElem?_cons_succ, List.getElem?_cons_zero]; rfl)
            case hst22 => kernel_rfl
            case hft22 => kernel_rfl
            case hrt22 => kernel_rfl
            case hQt22 => exact fun _ _ _ h => h
            case hSt22 => assumption
            case hyt22 =>
              refine Or.inl ⟨by rfl, ?_⟩
              intro w hSw
              (try dsimp only at hSw)
              go_simp
              all_goals (with_reducible rfl)
            (try simp only [Act.put, List.setIfInBounds_toArray, List.set_cons_zero, List.set_cons_succ])
            refine' wpAnyH_take (i := 17) (oi := _) (v := _) ?hit23 ?hst23 ?hft23 ?hrt23 ?hQt23 ?hyt23 ?hSt23 ?_
            case hit23 => (simp only [List.getElem?_toArray, List.getElem?_cons_succ, List.getElem?_cons_zero]; rfl)
            case hst23 => kernel_rfl
            case hft23 => kernel_rfl
            case hrt23 => kernel_rfl
            case hQt23 => exact fun _ _ _ h => h
            case hSt23 => assumption
            case hyt23 =>
              refine Or.inl ⟨by rfl, ?_⟩
              intro w hSw
              (try dsimp only at hSw)
              go_simp
              all_goals (with_reducible rfl)
            (try simp only [Act.put, List.setIfInBounds_toArray, List.set_cons_zero, List.set_cons_succ])
            refine wpAnyH_ready (rs := [18]) (by kernel_rfl) (by simp) ?_
            refine' (AllReadyH.cons (o := _) ?hir24_18 (fun K hK => ?br24_18) AllReadyH.nil)
            case hir24_18 => (simp only [List.getElem?_toArray, List.getElem?_cons_succ, List.getElem?_cons_zero]; rfl)
            case br24_18 =>
              go_simp
              refine (awake6_any H _ (H.old HQ1.out H21.out)).mono ?_
              rintro e w25 ⟨rfl, hb25⟩
              have H25 := Lib.hid (H21.out.trans (hb25.mono H21.out.size))
              clear hb25
              go_wp2_with fail
              refine hK.out _ _ ?_ (fun hHeld => ?_)
              exact H25.out
              clear hK K
              (try simp only [Act.put, List.setIfInBounds_toArray, List.set_cons_zero, List.set_cons_succ])
              refine' wpAnyH_take (i := 19) (oi := _) (v := _) ?hit26 ?hst26 ?hft26 ?hrt26 ?hQt26 ?hyt26 ?hSt26 ?_
              case hit26 => (simp only [List.getElem?_toArray, List.getElem?_cons_succ, List.getElem?_cons_zero]; rfl)
              case hst26 => kernel_rfl
              case hft26 => kernel_rfl
              case hrt26 => kernel_rfl
              case hQt26 => exact fun _ _ _ h => h
              case hSt26 => assumption
              case hyt26 =>
                refine Or.inl ⟨by rfl, ?_⟩
                intro w hSw
                (try dsimp only at hSw)
                go_simp
                all_goals (with_reducible rfl)
              (try simp only [Act.put, List.setIfInBounds_toArray, List.set_cons_zero, List.set_cons_succ])
              refine' wpAnyH_take (i := 20) (oi := _) (v := _) ?hit27 ?hst27 ?hft27 ?hrt27 ?hQt27 ?hyt27 ?hSt27 ?_
              case hit27 => (simp only [List.getElem?_toArray, List.getElem?_cons_succ, List.getElem?_cons_zero]; rfl)
              case hst27 => kernel_rfl
              case hft27 => kernel_rfl
              case hrt27 => kernel_rfl
              case hQt27 => exact fun _ _ _ h => h
              case hSt27 => assumption
              case hyt27 =>
                refine Or.inl ⟨by rfl, ?_⟩
                intro w hSw
                (try dsimp only at hSw)
                go_simp
                all_goals (with_reducible rfl)
              (try simp only [Act.put, List.setIfInBounds_toArray, List.set_cons_zero, List.set_cons_succ])
              refine wpAnyH_done (by kernel_rfl) ?_ _
              have hbe := Lib.hid (HB.out.trans (H25.out.mono HB.out.size))
              clear hHeld
              go_wp2_with fail
              go_ret
              exact ⟨rfl, hbe.out⟩
end Go.Proofs.YtebnkbeejkopaaaDoor
