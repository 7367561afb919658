/-
  The walk of the law ScalarLaws. Condition: the program's numbers modulo L are as they must be.
-/
import Derived.Test.YtebnkbeejkopaaaDoorScaMulsW
set_option linter.unusedVariables false
set_option linter.unusedSimpArgs false
namespace Go.Proofs.YtebnkbeejkopaaaDoor
open Go Go.Proofs Go.RowKit F5

theorem one_bytes : fbytes 1 = 1 :: List.replicate 31 0 := by decide +kernel
theorem sca_law1 (a b c : Nat) : (a * ((1 * b + c) % LL) + 0) % LL = (1 * ((a * b + 0) % LL) + (a * c + 0) % LL) % LL := by
  rw [Nat.one_mul, Nat.one_mul, Nat.add_zero, Nat.add_zero, Nat.add_zero, Nat.mul_mod_mod, Nat.mul_add, Nat.add_mod]
theorem sca_law2 (a : Nat) : (1 * a + 0) % LL = a % LL := by rw [Nat.one_mul, Nat.add_zero]
theorem rest_256 (a : Nat) : a % LL < 2 ^ 256 := Nat.lt_trans (Nat.mod_lt _ LL_pos) LL_256

set_option maxHeartbeats 16000000 in
set_option maxRecDepth 100000 in
theorem slaws_walk {Q : World → Prop} (H : ScaOk Q) (x0 x1 x2 : Nat) (h0 : x0 < 2 ^ 256) (h1 : x1 < 2 ^ 256) (h2 : x2 < 2 ^ 256) (w : World) (hQ : Q w) :
    Calls Tryd.prog 5 #[.agg (bytesA (fbytes x0)), .agg (bytesA (fbytes x1)), .agg (bytesA (fbytes x2))] w fun e w' => e = .returned (.bool true) ∧ Below w.heap.size w w' := by
  obtain ⟨z, hz⟩ : ∃ z, Hid (z = bytesA (List.replicate 32 0)) := ⟨_, Lib.hid rfl⟩
  have hz0 : ∀ W, (zeroValue 24).run Tryd.prog W = .ok (.agg z) W := by
    rw [hz.out]; exact (zero_of_info (n := 32) (by kernel_rfl)).1
  have HQ := Lib.hid hQ
  have one256 : 1 < 2 ^ 256 := by decide
  have nil256 : 0 < 2 ^ 256 := by decide
  obtain ⟨v1, hv1⟩ := named ((x0 * x1 + 0) % LL)
  obtain ⟨v2, hv2⟩ := named ((x0 * x2 + 0) % LL)
  obtain ⟨v3, hv3⟩ := named ((1 * x1 + x2) % LL)
  obtain ⟨v4, hv4⟩ := named ((x0 * v3 + 0) % LL)
  obtain ⟨v5, hv5⟩ := named (x0 % LL)
  have hv4' : (1 * v1 + v2) % LL = v4 := by rw [hv4.out, hv3.out, hv2.out, hv1.out]; exact (sca_law1 _ _ _).symm
  have l1 : v1 < 2 ^ 256 := by rw [hv1.out]; exact rest_256 _
  have l2 : v2 < 2 ^ 256 := by rw [hv2.out]; exact rest_256 _
  have l3 : v3 < 2 ^ 256 := by rw [hv3.out]; exact rest_256 _
  have C1 : Hid (∀ V, Q V → Calls Tryd.prog 12 #[.agg (bytesA (fbytes x0)), .agg (bytesA (fbytes x1)), .agg (bytesA (fbytes 0))] V fun e w' => e = .returned (.agg (bytesA (fbytes v1))) ∧ Below V.heap.size V w') := Lib.hid fun V hV => by
    have := H.muladd x0 x1 0 V h0 h1 nil256 hV
    rw [← hv1.out] at this
    exact this
  have C2 : Hid (∀ V, Q V → Calls Tryd.prog 12 #[.agg (bytesA (fbytes x0)), .agg (bytesA (fbytes x2)), .agg (bytesA (fbytes 0))] V fun e w' => e = .returned (.agg (bytesA (fbytes v2))) ∧ Below V.heap.size V w') := Lib.hid fun V hV => by
    have := H.muladd x0 x2 0 V h0 h2 nil256 hV
    rw [← hv2.out] at this
    exact this
  have C3 : Hid (∀ V, Q V → Calls Tryd.prog 12 #[.agg (bytesA (fbytes 1)), .agg (bytesA (fbytes x1)), .agg (bytesA (fbytes x2))] V fun e w' => e = .returned (.agg (bytesA (fbytes v3))) ∧ Below V.heap.size V w') := Lib.hid fun V hV => by
    have := H.muladd 1 x1 x2 V one256 h1 h2 hV
    rw [← hv3.out] at this
    exact this
  have C4 : Hid (∀ V, Q V → Calls Tryd.prog 12 #[.agg (bytesA (fbytes x0)), .agg (bytesA (fbytes v3)), .agg (bytesA (fbytes 0))] V fun e w' => e = .returned (.agg (bytesA (fbytes v4))) ∧ Below V.heap.size V w') := Lib.hid fun V hV => by
    have := H.muladd x0 v3 0 V h0 l3 nil256 hV
    rw [← hv4.out] at this
    exact this
  have C5 : Hid (∀ V, Q V → Calls Tryd.prog 12 #[.agg (bytesA (fbytes 1)), .agg (bytesA (fbytes v1)), .agg (bytesA (fbytes v2))] V fun e w' => e = .returned (.agg (bytesA (fbytes v4))) ∧ Below V.heap.size V w') := Lib.hid fun V hV => by
    have := H.muladd 1 v1 v2 V one256 l1 l2 hV
    rw [hv4'] at this
    exact this
  have C6 : Hid (∀ V, Q V → Calls Tryd.prog 12 #[.agg (bytesA (fbytes 1)), .agg (bytesA (fbytes x0)), .agg (bytesA (fbytes 0))] V fun e w' => e = .returned (.agg (bytesA (fbytes v5))) ∧ Below V.heap.size V w') := Lib.hid fun V hV => by
    have := H.muladd 1 x0 0 V one256 h0 nil256 hV
    rw [sca_law2, ← hv5.out] at this
    exact this
  have C7 : Hid (∀ g V, Reads V V.heap.size 1 (some ⟨g, 0, none⟩) 32 (Lib.byteCells (fbytes x0)) → Q V → Calls Tryd.prog 8 #[.slice (some ⟨g, 0, none⟩) 32 32] V fun e w' => e = .returned (.agg (bytesA (fbytes v5))) ∧ Below V.heap.size V w') := Lib.hid fun g V hr hq => by
    have := H.reduce (some ⟨g, 0, none⟩) 32 32 _ V (by omega) (by omega) (by unfold maxLen; omega) hr hq
    rw [bval_fbytes h0, ← hv5.out] at this
    exact this
  have ok1 : Hid ((Tryd.prog.info? 24).map (·.size) = some (bytesA (fbytes v1)).size ∧ (bytesA (fbytes v1)).all (·.oneCell') = true ∧ z.size = (bytesA (fbytes v1)).size) := Lib.hid ⟨fbytes_info _, bytesA_one _, by rw [hz.out, bytesA_size, bytesA_size, fbytes_length]; rfl⟩
  have ok2 : Hid ((Tryd.prog.info? 24).map (·.size) = some (bytesA (fbytes v2)).size ∧ (bytesA (fbytes v2)).all (·.oneCell') = true ∧ z.size = (bytesA (fbytes v2)).size) := Lib.hid ⟨fbytes_info _, bytesA_one _, by rw [hz.out, bytesA_size, bytesA_size, fbytes_length]; rfl⟩
  have ok3 : Hid ((Tryd.prog.info? 24).map (·.size) = some (bytesA (fbytes v3)).size ∧ (bytesA (fbytes v3)).all (·.oneCell') = true ∧ z.size = (bytesA (fbytes v3)).size) := Lib.hid ⟨fbytes_info _, bytesA_one _, by rw [hz.out, bytesA_size, bytesA_size, fbytes_length]; rfl⟩
  have okn : Hid ((Tryd.prog.info? 24).map (·.size) = some (bytesA (fbytes 0)).size ∧ (bytesA (fbytes 0)).all (·.oneCell') = true ∧ z.size = (bytesA (fbytes 0)).size) := Lib.hid ⟨fbytes_info _, bytesA_one _, by rw [hz.out, bytesA_size, bytesA_size, fbytes_length]; rfl⟩
  have oko : Hid ((Tryd.prog.info? 24).map (·.size) = some (bytesA (fbytes 1)).size ∧ (bytesA (fbytes 1)).all (·.oneCell') = true ∧ z.size = (bytesA (fbytes 1)).size) := Lib.hid ⟨fbytes_info _, bytesA_one _, by rw [hz.out, bytesA_size, bytesA_size, fbytes_length]; rfl⟩
  have HRB : Hid (∀ (V : World) (g x : Nat), Blk V g 24 (bytesA (fbytes x)) → Reads V V.heap.size 1 (some ⟨g, 0, none⟩) 32 (Lib.byteCells (fbytes x))) := Lib.hid fun V g x hb => by
    have := reads_blk hb
    rwa [fbytes_length] at this
  obtain ⟨ca0, hca0⟩ : ∃ x, Hid (x = bytesA (fbytes x0)) := ⟨_, Lib.hid rfl⟩
  have hia0 : Hid ((Tryd.prog.info? 24).map (·.size) = some ca0.size) := by rw [hca0.out]; exact Lib.hid (fbytes_info x0)
  obtain ⟨ca1, hca1⟩ : ∃ x, Hid (x = bytesA (fbytes x1)) := ⟨_, Lib.hid rfl⟩
  have hia1 : Hid ((Tryd.prog.info? 24).map (·.size) = some ca1.size) := by rw [hca1.out]; exact Lib.hid (fbytes_info x1)
  obtain ⟨ca2, hca2⟩ : ∃ x, Hid (x = bytesA (fbytes x2)) := ⟨_, Lib.hid rfl⟩
  have hia2 : Hid ((Tryd.prog.info? 24).map (·.size) = some ca2.size) := by rw [hca2.out]; exact Lib.hid (fbytes_info x2)
  obtain ⟨co, hco⟩ : ∃ x, Hid (x = bytesA (fbytes 1)) := ⟨_, Lib.hid rfl⟩
  obtain ⟨cn, hcn⟩ : ∃ x, Hid (x = bytesA (fbytes 0)) := ⟨_, Lib.hid rfl⟩
  rw [← hca0.out, ← hca1.out, ← hcn.out] at C1
  rw [← hca0.out, ← hca2.out, ← hcn.out] at C2
  rw [← hco.out, ← hca1.out, ← hca2.out] at C3
  rw [← hca0.out, ← hcn.out] at C4
  rw [← hco.out] at C5 oko
  rw [← hco.out, ← hca0.out, ← hcn.out] at C6
  rw [← hcn.out] at okn
  rw [← hca0.out, ← hca1.out, ← hca2.out]
  have ho1 : Hid (bytesA (1 :: List.replicate 31 0) = co) := by rw [hco.out, one_bytes]; exact Lib.hid rfl
  have ho0 : Hid (bytesA (List.replicate 32 0) = cn) := by rw [hcn.out, fbytes_zero]; exact Lib.hid rfl
  obtain ⟨b0, b1, b2, bb⟩ := three_new w ca0 ca1 ca2
  clear hv1 hv2 hv3 hv4 hv5 hv4' l1 l2 l3 hQ h0 h1 h2 one256 nil256
  go_enter Tryd.func5, Tryd.ntmps5
  go_upto_region 1 with fail
  generalize ((w.alloc (.cells ca0 24)).alloc (.cells ca1 24)).alloc (.cells ca2 24) = W at *
  have X3 := Lib.hid b0
  have X4 := Lib.hid b1
  have X5 := Lib.hid b2
  have HB := Lib.hid bb
  have HQ1 := Lib.hid (H.old HQ.out bb)
  clear b0 b1 b2 bb
  go_upto_region 2 with (first | (refine wpList_build_to rfl 24 #[(0, .const (.int .u8 1))] rfl [(0, .int .u8 1)] (by simp [Act.eval, Act.put]) (bytesA (1 :: List.replicate 31 0)) built_one ?_) | (refine wpList_store_row rfl 24 (.tmp 7) (.tmp 12) rfl W.heap.size (bytesA (1 :: List.replicate 31 0)) rfl rfl 24 z (heap_alloc_new W _) (by rw [ho1.out]; exact oko.out.1) (by rw [ho1.out]; exact oko.out.2.2) (by rw [ho1.out]; exact oko.out.2.1) ?_; rw [setRow_alloc1, ho1.out]))
  have hb2 := below_new1 W (.cells co 24)
  have X7 := Lib.hid (Blk.new W 24 co)
  have X3 := Lib.hid (X3.out.old hb2)
  have X4 := Lib.hid (X4.out.old hb2)
  have X5 := Lib.hid (X5.out.old hb2)
  have HB := Lib.hid (HB.out.trans (hb2.mono HB.out.size))
  have HQ1 := Lib.hid (H.old HQ1.out hb2)
  clear hb2
  generalize W.alloc (.cells co 24) = Wa at *
  generalize W.heap.size = g7 at *
  go_upto_region 3 with (first | (refine wpList_build_to rfl 24 #[] rfl [] (by simp [Act.eval, Act.put]) (bytesA (List.replicate 32 0)) built_nil ?_) | (refine wpList_store_row rfl 24 (.tmp 8) (.tmp 13) rfl Wa.heap.size (bytesA (List.replicate 32 0)) rfl rfl 24 z (heap_alloc_new Wa _) (by rw [ho0.out]; exact okn.out.1) (by rw [ho0.out]; exact okn.out.2.2) (by rw [ho0.out]; exact okn.out.2.1) ?_; rw [setRow_alloc1, ho0.out]))
  have hb2 := below_new1 Wa (.cells cn 24)
  have X8 := Lib.hid (Blk.new Wa 24 cn)
  have X3 := Lib.hid (X3.out.old hb2)
  have X4 := Lib.hid (X4.out.old hb2)
  have X5 := Lib.hid (X5.out.old hb2)
  have X7 := Lib.hid (X7.out.old hb2)
  have HB := Lib.hid (HB.out.trans (hb2.mono HB.out.size))
  have HQ1 := Lib.hid (H.old HQ1.out hb2)
  clear hb2
  generalize Wa.alloc (.cells cn 24) = W3 at *
  generalize Wa.heap.size = g8 at *
  (try simp only [Act.put, List.setIfInBounds_toArray, List.set_cons_zero, List.set_cons_succ])
  go_cut [9, 10] (fun p9 p10 wx => ∃ g9 g10, p9 = .pointer (some ⟨g9, 0, none⟩) ∧ p10 = .pointer (some ⟨g10, 0, none⟩) ∧ Blk wx g9 24 (bytesA (fbytes v1)) ∧ Blk wx g10 24 (bytesA (fbytes v2)) ∧ Below W3.heap.size W3 wx)
  case first =>
    refine wp_region_held_drew (S := fun V => Below W3.heap.size W3 V) (by kernel_rfl) (Below.refl _ _).drew (fun hHeld => ?_)
    have HBW3 := Lib.hid ((Below.refl W3.heap.size W3).drew)
    generalize W3.drew = VW3 at *
    refine' wpAnyH_take (i := 0) (oi := _) (v := .agg ca0) ?hit52 ?hst52 ?hft52 ?hrt52 ?hQt52 ?hyt52 ?hSt52 ?_
    case hit52 => (simp only [List.getElem?_toArray, List.getElem?_cons_succ, List.getElem?_cons_zero]; rfl)
    case hst52 => kernel_rfl
    case hft52 => kernel_rfl
    case hrt52 => kernel_rfl
    case hQt52 => exact fun _ _ _ h => h
    case hSt52 => assumption
    case hyt52 =>
      refine Or.inl ⟨by rfl, ?_⟩
      intro W hS
      exact quiet_load_row 24 (.tmp 3) _ rfl 24 ca0 _ (X3.out.old hS) Tryd.underlying24 rfl hia0.out rfl
    (try simp only [Act.put, List.setIfInBounds_toArray, List.set_cons_zero, List.set_cons_succ])
    refine' wpAnyH_take (i := 1) (oi := _) (v := .agg ca1) ?hit53 ?hst53 ?hft53 ?hrt53 ?hQt53 ?hyt53 ?hSt53 ?_
    case hit53 => (simp only [List.getElem?_toArray, List.getElem?_cons_succ, List.getElem?_cons_zero]; rfl)
    case hst53 => kernel_rfl
    case hft53 => kernel_rfl
    case hrt53 => kernel_rfl
    case hQt53 => exact fun _ _ _ h => h
    case hSt53 => assumption
    case hyt53 =>
      refine Or.inl ⟨by rfl, ?_⟩
      intro W hS
      exact quiet_load_row 24 (.tmp 4) _ rfl 24 ca1 _ (X4.out.old hS) Tryd.underlying24 rfl hia1.out rfl
    (try simp only [Act.put, List.setIfInBounds_toArray, List.set_cons_zero, List.set_cons_succ])
    refine' wpAnyH_take (i := 2) (oi := _) (v := .agg cn) ?hit54 ?hst54 ?hft54 ?hrt54 ?hQt54 ?hyt54 ?hSt54 ?_
    case hit54 => (simp only [List.getElem?_toArray, List.getElem?_cons_succ, List.getElem?_cons_zero]; rfl)
    case hst54 => kernel_rfl
    case hft54 => kernel_rfl
    case hrt54 => kernel_rfl
    case hQt54 => exact fun _ _ _ h => h
    case hSt54 => assumption
    case hyt54 =>
      refine Or.inl ⟨by rfl, ?_⟩
      intro W hS
      exact quiet_load_row 24 (.tmp 8) _ rfl 24 cn _ (X8.out.old hS) Tryd.underlying24 rfl okn.out.1 rfl
    (try simp only [Act.put, List.setIfInBounds_toArray, List.set_cons_zero, List.set_cons_succ])
    refine' wpAnyH_take (i := 4) (oi := _) (v := .agg ca0) ?hit55 ?hst55 ?hft55 ?hrt55 ?hQt55 ?hyt55 ?hSt55 ?_
    case hit55 => (simp only [List.getElem?_toArray, List.getElem?_cons_succ, List.getElem?_cons_zero]; rfl)
    case hst55 => kernel_rfl
    case hft55 => kernel_rfl
    case hrt55 => kernel_rfl
    case hQt55 => exact fun _ _ _ h => h
    case hSt55 => assumption
    case hyt55 =>
      refine Or.inl ⟨by rfl, ?_⟩
      intro W hS
      exact quiet_load_row 24 (.tmp 3) _ rfl 24 ca0 _ (X3.out.old hS) Tryd.underlying24 rfl hia0.out rfl
    (try simp only [Act.put, List.setIfInBounds_toArray, List.set_cons_zero, List.set_cons_succ])
    refine' wpAnyH_take (i := 5) (oi := _) (v := .agg ca2) ?hit56 ?hst56 ?hft56 ?hrt56 ?hQt56 ?hyt56 ?hSt56 ?_
    case hit56 => (simp only [List.getElem?_toArray, List.getElem?_cons_succ, List.getElem?_cons_zero]; rfl)
    case hst56 => kernel_rfl
    case hft56 => kernel_rfl
    case hrt56 => kernel_rfl
    case hQt56 => exact fun _ _ _ h => h
    case hSt56 => assumption
    case hyt56 =>
      refine Or.inl ⟨by rfl, ?_⟩
      intro W hS
      exact quiet_load_row 24 (.tmp 5) _ rfl 24 ca2 _ (X5.out.old hS) Tryd.underlying24 rfl hia2.out rfl
    (try simp only [Act.put, List.setIfInBounds_toArray, List.set_cons_zero, List.set_cons_succ])
    refine' wpAnyH_take (i := 6) (oi := _) (v := .agg cn) ?hit57 ?hst57 ?hft57 ?hrt57 ?hQt57 ?hyt57 ?hSt57 ?_
    case hit57 => (simp only [List.getElem?_toArray, List.getElem?_cons_succ, List.getElem?_cons_zero]; rfl)
    case hst57 => kernel_rfl
    case hft57 => kernel_rfl
    case hrt57 => kernel_rfl
    case hQt57 => exact fun _ _ _ h => h
    case hSt57 => assumption
    case hyt57 =>
      refine Or.inl ⟨by rfl, ?_⟩
      intro W hS
      exact quiet_load_row 24 (.tmp 8) _ rfl 24 cn _ (X8.out.old hS) Tryd.underlying24 rfl okn.out.1 rfl
    (try simp only [Act.put, List.setIfInBounds_toArray, List.set_cons_zero, List.set_cons_succ])
    refine wpAnyH_ready (rs := [3, 8, 9]) (by kernel_rfl) (by simp) ?_
    refine' (AllReadyH.cons (o := _) ?hir58_3 (fun K hK => ?br58_3) (AllReadyH.cons (o := _) ?hir58_8 (fun K hK => ?br58_8) (AllReadyH.cons (o := _) ?hir58_9 (fun K hK => ?br58_9) AllReadyH.nil)))
    case hir58_3 => (simp only [List.getElem?_toArray, List.getElem?_cons_succ, List.getElem?_cons_zero]; rfl)
    case hir58_8 => (simp only [List.getElem?_toArray, List.getElem?_cons_succ, List.getElem?_cons_zero]; rfl)
    case hir58_9 => (simp only [List.getElem?_toArray, List.getElem?_cons_succ, List.getElem?_cons_zero]; rfl)
    case br58_3 =>
      go_simp
      refine (C1.out _ (H.old HQ1.out HBW3.out)).mono ?_
      rintro e w59 ⟨rfl, hb59⟩
      have H59 := Lib.hid (HBW3.out.trans (hb59.mono HBW3.out.size))
      clear hb59
      go_wp2_with fail
      refine hK.out _ _ ?_ (fun hHeld => ?_)
      exact H59.out
      clear hK K
      (try simp only [Act.put, List.setIfInBounds_toArray, List.set_cons_zero, List.set_cons_succ])
      refine wpAnyH_ready (rs := [7, 8, 9]) (by kernel_rfl) (by simp) ?_
      refine' (AllReadyH.cons (o := _) ?hir60_7 (fun K hK => ?br60_7) (AllReadyH.cons (o := _) ?hir60_8 (fun K hK => ?br60_8) (AllReadyH.cons (o := _) ?hir60_9 (fun K hK => ?br60_9) AllReadyH.nil)))
      case hir60_7 => (simp only [List.getElem?_toArray, List.getElem?_cons_succ, List.getElem?_cons_zero]; rfl)
      case hir60_8 => (simp only [List.getElem?_toArray, List.getElem?_cons_succ, List.getElem?_cons_zero]; rfl)
      case hir60_9 => (simp only [List.getElem?_toArray, List.getElem?_cons_succ, List.getElem?_cons_zero]; rfl)
      case br60_7 =>
        go_simp
        refine (C2.out _ (H.old HQ1.out H59.out)).mono ?_
        rintro e w61 ⟨rfl, hb61⟩
        have H61 := Lib.hid (H59.out.trans (hb61.mono H59.out.size))
        clear hb61
        go_wp2_with fail
        refine hK.out _ _ ?_ (fun hHeld => ?_)
        exact H61.out
        clear hK K
        (try simp only [Act.put, List.setIfInBounds_toArray, List.set_cons_zero, List.set_cons_succ])
        refine wpAnyH_ready (rs := [8, 9]) (by kernel_rfl) (by simp) ?_
        refine' (AllReadyH.cons (o := _) ?hir62_8 (fun K hK => ?br62_8) (AllReadyH.cons (o := _) ?hir62_9 (fun K hK => ?br62_9) AllReadyH.nil))
        case hir62_8 => (simp only [List.getElem?_toArray, List.getElem?_cons_succ, List.getElem?_cons_zero]; rfl)
        case hir62_9 => (simp only [List.getElem?_toArray, List.getElem?_cons_succ, List.getElem?_cons_zero]; rfl)
        case br62_8 =>
          go_simp
          refine hK.out _ _ ?_ (fun hHeld => ?_)
          · exact (H61.out.alloc H61.out.size _)
          have H63 := Lib.hid (H61.out.alloc H61.out.size (.cells z 24))
          have N9_63 := Lib.hid (alloc_new H61.out 24 z)
          have G9_63 := Lib.hid H61.out.size
          clear hK K
          (try simp only [Act.put, List.setIfInBounds_toArray, List.set_cons_zero, List.set_cons_succ])
          refine wpAnyH_ready (rs := [9]) (by kernel_rfl) (by simp) ?_
          refine' (AllReadyH.cons (o := _) ?hir64_9 (fun K hK => ?br64_9) AllReadyH.nil)
          case hir64_9 => (simp only [List.getElem?_toArray, List.getElem?_cons_succ, List.getElem?_cons_zero]; rfl)
          case br64_9 =>
            go_simp
            refine hK.out _ _ ?_ (fun hHeld => ?_)
            · exact (H63.out.alloc H63.out.size _)
            have H65 := Lib.hid (H63.out.alloc H63.out.size (.cells z 24))
            have NE65 := Lib.hid (blk_ne2 N9_63.out)
            have N9_65 := Lib.hid (N9_63.out.alloc (.cells z 24))
            have N10_65 := Lib.hid (alloc_new2 H63.out 24 z)
            have G10_65 := Lib.hid (alloc_size2 H63.out)
            clear hK K
            (try simp only [Act.put, List.setIfInBounds_toArray, List.set_cons_zero, List.set_cons_succ])
            refine wpAnyH_ready (rs := [10]) (by kernel_rfl) (by simp) ?_
            refine' (AllReadyH.cons (o := _) ?hir66_10 (fun K hK => ?br66_10) AllReadyH.nil)
            case hir66_10 => (simp only [List.getElem?_toArray, List.getElem?_cons_succ, List.getElem?_cons_zero]; rfl)
            case br66_10 =>
              refine step_of_wp rfl ?_
              refine wp_store_row 24 (.tmp 9) (.tmp 17) rfl _ (bytesA (fbytes v1)) rfl rfl 24 z N9_65.out ok1.out.1 ok1.out.2.2 ok1.out.2.1 ?_
              refine hK.out _ _ ?_ (fun hHeld => ?_)
              exact below_row H65.out G9_63.out _
              have H67 := Lib.hid (below_row H65.out G9_63.out (bytesA (fbytes v1)))
              have N9_67 := Lib.hid (N9_65.out.row (bytesA (fbytes v1)))
              have N10_67 := Lib.hid (N10_65.out.rowFar (g' := _) (fun e => NE65.out (by first | exact e | exact e.symm)) (bytesA (fbytes v1)))
              clear hK K
              (try simp only [Act.put, List.setIfInBounds_toArray, List.set_cons_zero, List.set_cons_succ])
              refine wpAnyH_ready (rs := [11]) (by kernel_rfl) (by simp) ?_
              refine' (AllReadyH.cons (o := _) ?hir68_11 (fun K hK => ?br68_11) AllReadyH.nil)
              case hir68_11 => (simp only [List.getElem?_toArray, List.getElem?_cons_succ, List.getElem?_cons_zero]; rfl)
              case br68_11 =>
                refine step_of_wp rfl ?_
                refine wp_store_row 24 (.tmp 10) (.tmp 21) rfl _ (bytesA (fbytes v2)) rfl rfl 24 z N10_67.out ok2.out.1 ok2.out.2.2 ok2.out.2.1 ?_
                refine hK.out _ _ ?_ (fun hHeld => ?_)
                exact below_row H67.out G10_65.out _
                have H69 := Lib.hid (below_row H67.out G10_65.out (bytesA (fbytes v2)))
                have N10_69 := Lib.hid (N10_67.out.row (bytesA (fbytes v2)))
                have N9_69 := Lib.hid (N9_67.out.rowFar (g' := _) (fun e => NE65.out (by first | exact e | exact e.symm)) (bytesA (fbytes v2)))
                clear hK K
                (try simp only [Act.put, List.setIfInBounds_toArray, List.set_cons_zero, List.set_cons_succ])
                refine wpAnyH_done (by kernel_rfl) ?_ _
                go_wp2_with fail
                go_meet
                exact ⟨_, _, rfl, rfl, N9_69.out, N10_69.out, H69.out⟩
        case br62_9 =>
          go_simp
          refine hK.out _ _ ?_ (fun hHeld => ?_)
          · exact (H61.out.alloc H61.out.size _)
          have H70 := Lib.hid (H61.out.alloc H61.out.size (.cells z 24))
          have N10_70 := Lib.hid (alloc_new H61.out 24 z)
          have G10_70 := Lib.hid H61.out.size
          clear hK K
          (try simp only [Act.put, List.setIfInBounds_toArray, List.set_cons_zero, List.set_cons_succ])
          refine wpAnyH_ready (rs := [8]) (by kernel_rfl) (by simp) ?_
          refine' (AllReadyH.cons (o := _) ?hir71_8 (fun K hK => ?br71_8) AllReadyH.nil)
          case hir71_8 => (simp only [List.getElem?_toArray, List.getElem?_cons_succ, List.getElem?_cons_zero]; rfl)
          case br71_8 =>
            go_simp
            refine hK.out _ _ ?_ (fun hHeld => ?_)
            · exact (H70.out.alloc H70.out.size _)
            have H72 := Lib.hid (H70.out.alloc H70.out.size (.cells z 24))
            have NE72 := Lib.hid (blk_ne2 N10_70.out)
            have N10_72 := Lib.hid (N10_70.out.alloc (.cells z 24))
            have N9_72 := Lib.hid (alloc_new2 H70.out 24 z)
            have G9_72 := Lib.hid (alloc_size2 H70.out)
            clear hK K
            (try simp only [Act.put, List.setIfInBounds_toArray, List.set_cons_zero, List.set_cons_succ])
            refine wpAnyH_ready (rs := [10]) (by kernel_rfl) (by simp) ?_
            refine' (AllReadyH.cons (o := _) ?hir73_10 (fun K hK => ?br73_10) AllReadyH.nil)
            case hir73_10 => (simp only [List.getElem?_toArray, List.getElem?_cons_succ, List.getElem?_cons_zero]; rfl)
            case br73_10 =>
              refine step_of_wp rfl ?_
              refine wp_store_row 24 (.tmp 9) (.tmp 17) rfl _ (bytesA (fbytes v1)) rfl rfl 24 z N9_72.out ok1.out.1 ok1.out.2.2 ok1.out.2.1 ?_
              refine hK.out _ _ ?_ (fun hHeld => ?_)
              exact below_row H72.out G9_72.out _
              have H74 := Lib.hid (below_row H72.out G9_72.out (bytesA (fbytes v1)))
              have N9_74 := Lib.hid (N9_72.out.row (bytesA (fbytes v1)))
              have N10_74 := Lib.hid (N10_72.out.rowFar (g' := _) (fun e => NE72.out (by first | exact e | exact e.symm)) (bytesA (fbytes v1)))
              clear hK K
              (try simp only [Act.put, List.setIfInBounds_toArray, List.set_cons_zero, List.set_cons_succ])
              refine wpAnyH_ready (rs := [11]) (by kernel_rfl) (by simp) ?_
              refine' (AllReadyH.cons (o := _) ?hir75_11 (fun K hK => ?br75_11) AllReadyH.nil)
              case hir75_11 => (simp only [List.getElem?_toArray, List.getElem?_cons_succ, List.getElem?_cons_zero]; rfl)
              case br75_11 =>
                refine step_of_wp rfl ?_
                refine wp_store_row 24 (.tmp 10) (.tmp 21) rfl _ (bytesA (fbytes v2)) rfl rfl 24 z N10_74.out ok2.out.1 ok2.out.2.2 ok2.out.2.1 ?_
                refine hK.out _ _ ?_ (fun hHeld => ?_)
                exact below_row H74.out G10_70.out _
                have H76 := Lib.hid (below_row H74.out G10_70.out (bytesA (fbytes v2)))
                have N10_76 := Lib.hid (N10_74.out.row (bytesA (fbytes v2)))
                have N9_76 := Lib.hid (N9_74.out.rowFar (g' := _) (fun e => NE72.out (by first | exact e | exact e.symm)) (bytesA (fbytes v2)))
                clear hK K
                (try simp only [Act.put, List.setIfInBounds_toArray, List.set_cons_zero, List.set_cons_succ])
                refine wpAnyH_done (by kernel_rfl) ?_ _
                go_wp2_with fail
                go_meet
                exact ⟨_, _, rfl, rfl, N9_76.out, N10_76.out, H76.out⟩
      case br60_8 =>
        go_simp
        refine hK.out _ _ ?_ (fun hHeld => ?_)
        · exact (H59.out.alloc H59.out.size _)
        have H77 := Lib.hid (H59.out.alloc H59.out.size (.cells z 24))
        have N9_77 := Lib.hid (alloc_new H59.out 24 z)
        have G9_77 := Lib.hid H59.out.size
        clear hK K
        (try simp only [Act.put, List.setIfInBounds_toArray, List.set_cons_zero, List.set_cons_succ])
        refine wpAnyH_ready (rs := [7, 9]) (by kernel_rfl) (by simp) ?_
        refine' (AllReadyH.cons (o := _) ?hir78_7 (fun K hK => ?br78_7) (AllReadyH.cons (o := _) ?hir78_9 (fun K hK => ?br78_9) AllReadyH.nil))
        case hir78_7 => (simp only [List.getElem?_toArray, List.getElem?_cons_succ, List.getElem?_cons_zero]; rfl)
        case hir78_9 => (simp only [List.getElem?_toArray, List.getElem?_cons_succ, List.getElem?_cons_zero]; rfl)
        case br78_7 =>
          go_simp
          refine (C2.out _ (H.old HQ1.out H77.out)).mono ?_
          rintro e w79 ⟨rfl, hb79⟩
          have H79 := Lib.hid (H77.out.trans (hb79.mono H77.out.size))
          have N9_79 := Lib.hid (N9_77.out.old hb79)
          clear hb79
          go_wp2_with fail
          refine hK.out _ _ ?_ (fun hHeld => ?_)
          exact H79.out
          clear hK K
          (try simp only [Act.put, List.setIfInBounds_toArray, List.set_cons_zero, List.set_cons_succ])
          refine wpAnyH_ready (rs := [9]) (by kernel_rfl) (by simp) ?_
          refine' (AllReadyH.cons (o := _) ?hir80_9 (fun K hK => ?br80_9) AllReadyH.nil)
          case hir80_9 => (simp only [List.getElem?_toArray, List.getElem?_cons_succ, List.getElem?_cons_zero]; rfl)
          case br80_9 =>
            go_simp
            refine hK.out _ _ ?_ (fun hHeld => ?_)
            · exact (H79.out.alloc H79.out.size _)
            have H81 := Lib.hid (H79.out.alloc H79.out.size (.cells z 24))
            have NE81 := Lib.hid (Nat.ne_of_lt N9_79.out.lt)
            have N9_81 := Lib.hid (N9_79.out.alloc (.cells z 24))
            have N10_81 := Lib.hid (alloc_new H79.out 24 z)
            have G10_81 := Lib.hid H79.out.size
            clear hK K
            (try simp only [Act.put, List.setIfInBounds_toArray, List.set_cons_zero, List.set_cons_succ])
            refine wpAnyH_ready (rs := [10]) (by kernel_rfl) (by simp) ?_
            refine' (AllReadyH.cons (o := _) ?hir82_10 (fun K hK => ?br82_10) AllReadyH.nil)
            case hir82_10 => (simp only [List.getElem?_toArray, List.getElem?_cons_succ, List.getElem?_cons_zero]; rfl)
            case br82_10 =>
              refine step_of_wp rfl ?_
              refine wp_store_row 24 (.tmp 9) (.tmp 17) rfl _ (bytesA (fbytes v1)) rfl rfl 24 z N9_81.out ok1.out.1 ok1.out.2.2 ok1.out.2.1 ?_
              refine hK.out _ _ ?_ (fun hHeld => ?_)
              exact below_row H81.out G9_77.out _
              have H83 := Lib.hid (below_row H81.out G9_77.out (bytesA (fbytes v1)))
              have N9_83 := Lib.hid (N9_81.out.row (bytesA (fbytes v1)))
              have N10_83 := Lib.hid (N10_81.out.rowFar (g' := _) (fun e => NE81.out (by first | exact e | exact e.symm)) (bytesA (fbytes v1)))
              clear hK K
              (try simp only [Act.put, List.setIfInBounds_toArray, List.set_cons_zero, List.set_cons_succ])
              refine wpAnyH_ready (rs := [11]) (by kernel_rfl) (by simp) ?_
              refine' (AllReadyH.cons (o := _) ?hir84_11 (fun K hK => ?br84_11) AllReadyH.nil)
              case hir84_11 => (simp only [List.getElem?_toArray, List.getElem?_cons_succ, List.getElem?_cons_zero]; rfl)
              case br84_11 =>
                refine step_of_wp rfl ?_
                refine wp_store_row 24 (.tmp 10) (.tmp 21) rfl _ (bytesA (fbytes v2)) rfl rfl 24 z N10_83.out ok2.out.1 ok2.out.2.2 ok2.out.2.1 ?_
                refine hK.out _ _ ?_ (fun hHeld => ?_)
                exact below_row H83.out G10_81.out _
                have H85 := Lib.hid (below_row H83.out G10_81.out (bytesA (fbytes v2)))
                have N10_85 := Lib.hid (N10_83.out.row (bytesA (fbytes v2)))
                have N9_85 := Lib.hid (N9_83.out.rowFar (g' := _) (fun e => NE81.out (by first | exact e | exact e.symm)) (bytesA (fbytes v2)))
                clear hK K
                (try simp only [Act.put, List.setIfInBounds_toArray, List.set_cons_zero, List.set_cons_succ])
                refine wpAnyH_done (by kernel_rfl) ?_ _
                go_wp2_with fail
                go_meet
                exact ⟨_, _, rfl, rfl, N9_85.out, N10_85.out, H85.out⟩
        case br78_9 =>
          go_simp
          refine hK.out _ _ ?_ (fun hHeld => ?_)
          · exact (H77.out.alloc H77.out.size _)
          have H86 := Lib.hid (H77.out.alloc H77.out.size (.cells z 24))
          have NE86 := Lib.hid (blk_ne2 N9_77.out)
          have N9_86 := Lib.hid (N9_77.out.alloc (.cells z 24))
          have N10_86 := Lib.hid (alloc_new2 H77.out 24 z)
          have G10_86 := Lib.hid (alloc_size2 H77.out)
          clear hK K
          (try simp only [Act.put, List.setIfInBounds_toArray, List.set_cons_zero, List.set_cons_succ])
          refine wpAnyH_ready (rs := [7]) (by kernel_rfl) (by simp) ?_
          refine' (AllReadyH.cons (o := _) ?hir87_7 (fun K hK => ?br87_7) AllReadyH.nil)
          case hir87_7 => (simp only [List.getElem?_toArray, List.getElem?_cons_succ, List.getElem?_cons_zero]; rfl)
          case br87_7 =>
            go_simp
            refine (C2.out _ (H.old HQ1.out H86.out)).mono ?_
            rintro e w88 ⟨rfl, hb88⟩
            have H88 := Lib.hid (H86.out.trans (hb88.mono H86.out.size))
            have N9_88 := Lib.hid (N9_86.out.old hb88)
            have N10_88 := Lib.hid (N10_86.out.old hb88)
            clear hb88
            go_wp2_with fail
            refine hK.out _ _ ?_ (fun hHeld => ?_)
            exact H88.out
            clear hK K
            (try simp only [Act.put, List.setIfInBounds_toArray, List.set_cons_zero, List.set_cons_succ])
            refine wpAnyH_ready (rs := [10]) (by kernel_rfl) (by simp) ?_
            refine' (AllReadyH.cons (o := _) ?hir89_10 (fun K hK => ?br89_10) AllReadyH.nil)
            case hir89_10 => (simp only [List.getElem?_toArray, List.getElem?_cons_succ, List.getElem?_cons_zero]; rfl)
            case br89_10 =>
              refine step_of_wp rfl ?_
              refine wp_store_row 24 (.tmp 9) (.tmp 17) rfl _ (bytesA (fbytes v1)) rfl rfl 24 z N9_88.out ok1.out.1 ok1.out.2.2 ok1.out.2.1 ?_
              refine hK.out _ _ ?_ (fun hHeld => ?_)
              exact below_row H88.out G9_77.out _
              have H90 := Lib.hid (below_row H88.out G9_77.out (bytesA (fbytes v1)))
              have N9_90 := Lib.hid (N9_88.out.row (bytesA (fbytes v1)))
              have N10_90 := Lib.hid (N10_88.out.rowFar (g' := _) (fun e => NE86.out (by first | exact e | exact e.symm)) (bytesA (fbytes v1)))
              clear hK K
              (try simp only [Act.put, List.setIfInBounds_toArray, List.set_cons_zero, List.set_cons_succ])
              refine wpAnyH_ready (rs := [11]) (by kernel_rfl) (by simp) ?_
              refine' (AllReadyH.cons (o := _) ?hir91_11 (fun K hK => ?br91_11) AllReadyH.nil)
              case hir91_11 => (simp only [List.getElem?_toArray, List.getElem?_cons_succ, List.getElem?_cons_zero]; rfl)
              case br91_11 =>
                refine step_of_wp rfl ?_
                refine wp_store_row 24 (.tmp 10) (.tmp 21) rfl _ (bytesA (fbytes v2)) rfl rfl 24 z N10_90.out ok2.out.1 ok2.out.2.2 ok2.out.2.1 ?_
                refine hK.out _ _ ?_ (fun hHeld => ?_)
                exact below_row H90.out G10_86.out _
                have H92 := Lib.hid (below_row H90.out G10_86.out (bytesA (fbytes v2)))
                have N10_92 := Lib.hid (N10_90.out.row (bytesA (fbytes v2)))
                have N9_92 := Lib.hid (N9_90.out.rowFar (g' := _) (fun e => NE86.out (by first | exact e | exact e.symm)) (bytesA (fbytes v2)))
                clear hK K
                (try simp only [Act.put, List.setIfInBounds_toArray, List.set_cons_zero, List.set_cons_succ])
                refine wpAnyH_done (by kernel_rfl) ?_ _
                go_wp2_with fail
                go_meet
                exact ⟨_, _, rfl, rfl, N9_92.out, N10_92.out, H92.out⟩
      case br60_9 =>
        go_simp
        refine hK.out _ _ ?_ (fun hHeld => ?_)
        · exact (H59.out.alloc H59.out.size _)
        have H93 := Lib.hid (H59.out.alloc H59.out.size (.cells z 24))
        have N10_93 := Lib.hid (alloc_new H59.out 24 z)
        have G10_93 := Lib.hid H59.out.size
        clear hK K
        (try simp only [Act.put, List.setIfInBounds_toArray, List.set_cons_zero, List.set_cons_succ])
        refine wpAnyH_ready (rs := [7, 8]) (by kernel_rfl) (by simp) ?_
        refine' (AllReadyH.cons (o := _) ?hir94_7 (fun K hK => ?br94_7) (AllReadyH.cons (o := _) ?hir94_8 (fun K hK => ?br94_8) AllReadyH.nil))
        case hir94_7 => (simp only [List.getElem?_toArray, List.getElem?_cons_succ, List.getElem?_cons_zero]; rfl)
        case hir94_8 => (simp only [List.getElem?_toArray, List.getElem?_cons_succ, List.getElem?_cons_zero]; rfl)
        case br94_7 =>
          go_simp
          refine (C2.out _ (H.old HQ1.out H93.out)).mono ?_
          rintro e w95 ⟨rfl, hb95⟩
          have H95 := Lib.hid (H93.out.trans (hb95.mono H93.out.size))
          have N10_95 := Lib.hid (N10_93.out.old hb95)
          clear hb95
          go_wp2_with fail
          refine hK.out _ _ ?_ (fun hHeld => ?_)
          exact H95.out
          clear hK K
          (try simp only [Act.put, List.setIfInBounds_toArray, List.set_cons_zero, List.set_cons_succ])
          refine wpAnyH_ready (rs := [8]) (by kernel_rfl) (by simp) ?_
          refine' (AllReadyH.cons (o := _) ?hir96_8 (fun K hK => ?br96_8) AllReadyH.nil)
          case hir96_8 => (simp only [List.getElem?_toArray, List.getElem?_cons_succ, List.getElem?_cons_zero]; rfl)
          case br96_8 =>
            go_simp
            refine hK.out _ _ ?_ (fun hHeld => ?_)
            · exact (H95.out.alloc H95.out.size _)
            have H97 := Lib.hid (H95.out.alloc H95.out.size (.cells z 24))
            have NE97 := Lib.hid (Nat.ne_of_lt N10_95.out.lt)
            have N10_97 := Lib.hid (N10_95.out.alloc (.cells z 24))
            have N9_97 := Lib.hid (alloc_new H95.out 24 z)
            have G9_97 := Lib.hid H95.out.size
            clear hK K
            (try simp only [Act.put, List.setIfInBounds_toArray, List.set_cons_zero, List.set_cons_succ])
            refine wpAnyH_ready (rs := [10]) (by kernel_rfl) (by simp) ?_
            refine' (AllReadyH.cons (o := _) ?hir98_10 (fun K hK => ?br98_10) AllReadyH.nil)
            case hir98_10 => (simp only [List.getElem?_toArray, List.getElem?_cons_succ, List.getElem?_cons_zero]; rfl)
            case br98_10 =>
              refine step_of_wp rfl ?_
              refine wp_store_row 24 (.tmp 9) (.tmp 17) rfl _ (bytesA (fbytes v1)) rfl rfl 24 z N9_97.out ok1.out.1 ok1.out.2.2 ok1.out.2.1 ?_
              refine hK.out _ _ ?_ (fun hHeld => ?_)
              exact below_row H97.out G9_97.out _
              have H99 := Lib.hid (below_row H97.out G9_97.out (bytesA (fbytes v1)))
              have N9_99 := Lib.hid (N9_97.out.row (bytesA (fbytes v1)))
              have N10_99 := Lib.hid (N10_97.out.rowFar (g' := _) (fun e => NE97.out (by first | exact e | exact e.symm)) (bytesA (fbytes v1)))
              clear hK K
              (try simp only [Act.put, List.setIfInBounds_toArray, List.set_cons_zero, List.set_cons_succ])
              refine wpAnyH_ready (rs := [11]) (by kernel_rfl) (by simp) ?_
              refine' (AllReadyH.cons (o := _) ?hir100_11 (fun K hK => ?br100_11) AllReadyH.nil)
              case hir100_11 => (simp only [List.getElem?_toArray, List.getElem?_cons_succ, List.getElem?_cons_zero]; rfl)
              case br100_11 =>
                refine step_of_wp rfl ?_
                refine wp_store_row 24 (.tmp 10) (.tmp 21) rfl _ (bytesA (fbytes v2)) rfl rfl 24 z N10_99.out ok2.out.1 ok2.out.2.2 ok2.out.2.1 ?_
                refine hK.out _ _ ?_ (fun hHeld => ?_)
                exact below_row H99.out G10_93.out _
                have H101 := Lib.hid (below_row H99.out G10_93.out (bytesA (fbytes v2)))
                have N10_101 := Lib.hid (N10_99.out.row (bytesA (fbytes v2)))
                have N9_101 := Lib.hid (N9_99.out.rowFar (g' := _) (fun e => NE97.out (by first | exact e | exact e.symm)) (bytesA (fbytes v2)))
                clear hK K
                (try simp only [Act.put, List.setIfInBounds_toArray, List.set_cons_zero, List.set_cons_succ])
                refine wpAnyH_done (by kernel_rfl) ?_ _
                go_wp2_with fail
                go_meet
                exact ⟨_, _, rfl, rfl, N9_101.out, N10_101.out, H101.out⟩
        case br94_8 =>
          go_simp
          refine hK.out _ _ ?_ (fun hHeld => ?_)
          · exact (H93.out.alloc H93.out.size _)
          have H102 := Lib.hid (H93.out.alloc H93.out.size (.cells z 24))
          have NE102 := Lib.hid (blk_ne2 N10_93.out)
          have N10_102 := Lib.hid (N10_93.out.alloc (.cells z 24))
          have N9_102 := Lib.hid (alloc_new2 H93.out 24 z)
          have G9_102 := Lib.hid (alloc_size2 H93.out)
          clear hK K
          (try simp only [Act.put, List.setIfInBounds_toArray, List.set_cons_zero, List.set_cons_succ])
          refine wpAnyH_ready (rs := [7]) (by kernel_rfl) (by simp) ?_
          refine' (AllReadyH.cons (o := _) ?hir103_7 (fun K hK => ?br103_7) AllReadyH.nil)
          case hir103_7 => (simp only [List.getElem?_toArray, List.getElem?_cons_succ, List.getElem?_cons_zero]; rfl)
          case br103_7 =>
            go_simp
            refine (C2.out _ (H.old HQ1.out H102.out)).mono ?_
            rintro e w104 ⟨rfl, hb104⟩
            have H104 := Lib.hid (H102.out.trans (hb104.mono H102.out.size))
            have N10_104 := Lib.hid (N10_102.out.old hb104)
            have N9_104 := Lib.hid (N9_102.out.old hb104)
            clear hb104
            go_wp2_with fail
            refine hK.out _ _ ?_ (fun hHeld => ?_)
            exact H104.out
            clear hK K
            (try simp only [Act.put, List.setIfInBounds_toArray, List.set_cons_zero, List.set_cons_succ])
            refine wpAnyH_ready (rs := [10]) (by kernel_rfl) (by simp) ?_
            refine' (AllReadyH.cons (o := _) ?hir105_10 (fun K hK => ?br105_10) AllReadyH.nil)
            case hir105_10 => (simp only [List.getElem?_toArray, List.getElem?_cons_succ, List.getElem?_cons_zero]; rfl)
            case br105_10 =>
              refine step_of_wp rfl ?_
              refine wp_store_row 24 (.tmp 9) (.tmp 17) rfl _ (bytesA (fbytes v1)) rfl rfl 24 z N9_104.out ok1.out.1 ok1.out.2.2 ok1.out.2.1 ?_
              refine hK.out _ _ ?_ (fun hHeld => ?_)
              exact below_row H104.out G9_102.out _
              have H106 := Lib.hid (below_row H104.out G9_102.out (bytesA (fbytes v1)))
              have N9_106 := Lib.hid (N9_104.out.row (bytesA (fbytes v1)))
              have N10_106 := Lib.hid (N10_104.out.rowFar (g' := _) (fun e => NE102.out (by first | exact e | exact e.symm)) (bytesA (fbytes v1)))
              clear hK K
              (try simp only [Act.put, List.setIfInBounds_toArray, List.set_cons_zero, List.set_cons_succ])
              refine wpAnyH_ready (rs := [11]) (by kernel_rfl) (by simp) ?_
              refine' (AllReadyH.cons (o := _) ?hir107_11 (fun K hK => ?br107_11) AllReadyH.nil)
              case hir107_11 => (simp only [List.getElem?_toArray, List.getElem?_cons_succ, List.getElem?_cons_zero]; rfl)
              case br107_11 =>
                refine step_of_wp rfl ?_
                refine wp_store_row 24 (.tmp 10) (.tmp 21) rfl _ (bytesA (fbytes v2)) rfl rfl 24 z N10_106.out ok2.out.1 ok2.out.2.2 ok2.out.2.1 ?_
                refine hK.out _ _ ?_ (fun hHeld => ?_)
                exact below_row H106.out G10_93.out _
                have H108 := Lib.hid (below_row H106.out G10_93.out (bytesA (fbytes v2)))
                have N10_108 := Lib.hid (N10_106.out.row (bytesA (fbytes v2)))
                have N9_108 := Lib.hid (N9_106.out.rowFar (g' := _) (fun e => NE102.out (by first | exact e | exact e.symm)) (bytesA (fbytes v2)))
                clear hK K
                (try simp only [Act.put, List.setIfInBounds_toArray, List.set_cons_zero, List.set_cons_succ])
                refine wpAnyH_done (by kernel_rfl) ?_ _
                go_wp2_with fail
                go_meet
                exact ⟨_, _, rfl, rfl, N9_108.out, N10_108.out, H108.out⟩
    case br58_8 =>
      go_simp
      refine hK.out _ _ ?_ (fun hHeld => ?_)
      · exact (HBW3.out.alloc HBW3.out.size _)
      have H109 := Lib.hid (HBW3.out.alloc HBW3.out.size (.cells z 24))
      have N9_109 := Lib.hid (alloc_new HBW3.out 24 z)
      have G9_109 := Lib.hid HBW3.out.size
      clear hK K
      (try simp only [Act.put, List.setIfInBounds_toArray, List.set_cons_zero, List.set_cons_succ])
      refine wpAnyH_ready (rs := [3, 9]) (by kernel_rfl) (by simp) ?_
      refine' (AllReadyH.cons (o := _) ?hir110_3 (fun K hK => ?br110_3) (AllReadyH.cons (o := _) ?hir110_9 (fun K hK => ?br110_9) AllReadyH.nil))
      case hir110_3 => (simp only [List.getElem?_toArray, List.getElem?_cons_succ, List.getElem?_cons_zero]; rfl)
      case hir110_9 => (simp only [List.getElem?_toArray, List.getElem?_cons_succ, List.getElem?_cons_zero]; rfl)
      case br110_3 =>
        go_simp
        refine (C1.out _ (H.old HQ1.out H109.out)).mono ?_
        rintro e w111 ⟨rfl, hb111⟩
        have H111 := Lib.hid (H109.out.trans (hb111.mono H109.out.size))
        have N9_111 := Lib.hid (N9_109.out.old hb111)
        clear hb111
        go_wp2_with fail
        refine hK.out _ _ ?_ (fun hHeld => ?_)
        exact H111.out
        clear hK K
        (try simp only [Act.put, List.setIfInBounds_toArray, List.set_cons_zero, List.set_cons_succ])
        refine wpAnyH_ready (rs := [7, 9]) (by kernel_rfl) (by simp) ?_
        refine' (AllReadyH.cons (o := _) ?hir112_7 (fun K hK => ?br112_7) (AllReadyH.cons (o := _) ?hir112_9 (fun K hK => ?br112_9) AllReadyH.nil))
        case hir112_7 => (simp only [List.getElem?_toArray, List.getElem?_cons_succ, List.getElem?_cons_zero]; rfl)
        case hir112_9 => (simp only [List.getElem?_toArray, List.getElem?_cons_succ, List.getElem?_cons_zero]; rfl)
        case br112_7 =>
          go_simp
          refine (C2.out _ (H.old HQ1.out H111.out)).mono ?_
          rintro e w113 ⟨rfl, hb113⟩
          have H113 := Lib.hid (H111.out.trans (hb113.mono H111.out.size))
          have N9_113 := Lib.hid (N9_111.out.old hb113)
          clear hb113
          go_wp2_with fail
          refine hK.out _ _ ?_ (fun hHeld => ?_)
          exact H113.out
          clear hK K
          (try simp only [Act.put, List.setIfInBounds_toArray, List.set_cons_zero, List.set_cons_succ])
          refine wpAnyH_ready (rs := [9]) (by kernel_rfl) (by simp) ?_
          refine' (AllReadyH.cons (o := _) ?hir114_9 (fun K hK => ?br114_9) AllReadyH.nil)
          case hir114_9 => (simp only [List.getElem?_toArray, List.getElem?_cons_succ, List.getElem?_cons_zero]; rfl)
          case br114_9 =>
            go_simp
            refine hK.out _ _ ?_ (fun hHeld => ?_)
            · exact (H113.out.alloc H113.out.size _)
            have H115 := Lib.hid (H113.out.alloc H113.out.size (.cells z 24))
            have NE115 := Lib.hid (Nat.ne_of_lt N9_113.out.lt)
            have N9_115 := Lib.hid (N9_113.out.alloc (.cells z 24))
            have N10_115 := Lib.hid (alloc_new H113.out 24 z)
            have G10_115 := Lib.hid H113.out.size
            clear hK K
            (try simp only [Act.put, List.setIfInBounds_toArray, List.set_cons_zero, List.set_cons_succ])
            refine wpAnyH_ready (rs := [10]) (by kernel_rfl) (by simp) ?_
            refine' (AllReadyH.cons (o := _) ?hir116_10 (fun K hK => ?br116_10) AllReadyH.nil)
            case hir116_10 => (simp only [List.getElem?_toArray, List.getElem?_cons_succ, List.getElem?_cons_zero]; rfl)
            case br116_10 =>
              refine step_of_wp rfl ?_
              refine wp_store_row 24 (.tmp 9) (.tmp 17) rfl _ (bytesA (fbytes v1)) rfl rfl 24 z N9_115.out ok1.out.1 ok1.out.2.2 ok1.out.2.1 ?_
              refine hK.out _ _ ?_ (fun hHeld => ?_)
              exact below_row H115.out G9_109.out _
              have H117 := Lib.hid (below_row H115.out G9_109.out (bytesA (fbytes v1)))
              have N9_117 := Lib.hid (N9_115.out.row (bytesA (fbytes v1)))
              have N10_117 := Lib.hid (N10_115.out.rowFar (g' := _) (fun e => NE115.out (by first | exact e | exact e.symm)) (bytesA (fbytes v1)))
              clear hK K
              (try simp only [Act.put, List.setIfInBounds_toArray, List.set_cons_zero, List.set_cons_succ])
              refine wpAnyH_ready (rs := [11]) (by kernel_rfl) (by simp) ?_
              refine' (AllReadyH.cons (o := _) ?hir118_11 (fun K hK => ?br118_11) AllReadyH.nil)
              case hir118_11 => (simp only [List.getElem?_toArray, List.getElem?_cons_succ, List.getElem?_cons_zero]; rfl)
              case br118_11 =>
                refine step_of_wp rfl ?_
                refine wp_store_row 24 (.tmp 10) (.tmp 21) rfl _ (bytesA (fbytes v2)) rfl rfl 24 z N10_117.out ok2.out.1 ok2.out.2.2 ok2.out.2.1 ?_
                refine hK.out _ _ ?_ (fun hHeld => ?_)
                exact below_row H117.out G10_115.out _
                have H119 := Lib.hid (below_row H117.out G10_115.out (bytesA (fbytes v2)))
                have N10_119 := Lib.hid (N10_117.out.row (bytesA (fbytes v2)))
                have N9_119 := Lib.hid (N9_117.out.rowFar (g' := _) (fun e => NE115.out (by first | exact e | exact e.symm)) (bytesA (fbytes v2)))
                clear hK K
                (try simp only [Act.put, List.setIfInBounds_toArray, List.set_cons_zero, List.set_cons_succ])
                refine wpAnyH_done (by kernel_rfl) ?_ _
                go_wp2_with fail
                go_meet
                exact ⟨_, _, rfl, rfl, N9_119.out, N10_119.out, H119.out⟩
        case br112_9 =>
          go_simp
          refine hK.out _ _ ?_ (fun hHeld => ?_)
          · exact (H111.out.alloc H111.out.size _)
          have H120 := Lib.hid (H111.out.alloc H111.out.size (.cells z 24))
          have NE120 := Lib.hid (Nat.ne_of_lt N9_111.out.lt)
          have N9_120 := Lib.hid (N9_111.out.alloc (.cells z 24))
          have N10_120 := Lib.hid (alloc_new H111.out 24 z)
          have G10_120 := Lib.hid H111.out.size
          clear hK K
          (try simp only [Act.put, List.setIfInBounds_toArray, List.set_cons_zero, List.set_cons_succ])
          refine wpAnyH_ready (rs := [7]) (by kernel_rfl) (by simp) ?_
          refine' (AllReadyH.cons (o := _) ?hir121_7 (fun K hK => ?br121_7) AllReadyH.nil)
          case hir121_7 => (simp only [List.getElem?_toArray, List.getElem?_cons_succ, List.getElem?_cons_zero]; rfl)
          case br121_7 =>
            go_simp
            refine (C2.out _ (H.old HQ1.out H120.out)).mono ?_
            rintro e w122 ⟨rfl, hb122⟩
            have H122 := Lib.hid (H120.out.trans (hb122.mono H120.out.size))
            have N9_122 := Lib.hid (N9_120.out.old hb122)
            have N10_122 := Lib.hid (N10_120.out.old hb122)
            clear hb122
            go_wp2_with fail
            refine hK.out _ _ ?_ (fun hHeld => ?_)
            exact H122.out
            clear hK K
            (try simp only [Act.put, List.setIfInBounds_toArray, List.set_cons_zero, List.set_cons_succ])
            refine wpAnyH_ready (rs := [10]) (by kernel_rfl) (by simp) ?_
            refine' (AllReadyH.cons (o := _) ?hir123_10 (fun K hK => ?br123_10) AllReadyH.nil)
            case hir123_10 => (simp only [List.getElem?_toArray, List.getElem?_cons_succ, List.getElem?_cons_zero]; rfl)
            case br123_10 =>
              refine step_of_wp rfl ?_
              refine wp_store_row 24 (.tmp 9) (.tmp 17) rfl _ (bytesA (fbytes v1)) rfl rfl 24 z N9_122.out ok1.out.1 ok1.out.2.2 ok1.out.2.1 ?_
              refine hK.out _ _ ?_ (fun hHeld => ?_)
              exact below_row H122.out G9_109.out _
              have H124 := Lib.hid (below_row H122.out G9_109.out (bytesA (fbytes v1)))
              have N9_124 := Lib.hid (N9_122.out.row (bytesA (fbytes v1)))
              have N10_124 := Lib.hid (N10_122.out.rowFar (g' := _) (fun e => NE120.out (by first | exact e | exact e.symm)) (bytesA (fbytes v1)))
              clear hK K
              (try simp only [Act.put, List.setIfInBounds_toArray, List.set_cons_zero, List.set_cons_succ])
              refine wpAnyH_ready (rs := [11]) (by kernel_rfl) (by simp) ?_
              refine' (AllReadyH.cons (o := _) ?hir125_11 (fun K hK => ?br125_11) AllReadyH.nil)
              case hir125_11 => (simp only [List.getElem?_toArray, List.getElem?_cons_succ, List.getElem?_cons_zero]; rfl)
              case br125_11 =>
                refine step_of_wp rfl ?_
                refine wp_store_row 24 (.tmp 10) (.tmp 21) rfl _ (bytesA (fbytes v2)) rfl rfl 24 z N10_124.out ok2.out.1 ok2.out.2.2 ok2.out.2.1 ?_
                refine hK.out _ _ ?_ (fun hHeld => ?_)
                exact below_row H124.out G10_120.out _
                have H126 := Lib.hid (below_row H124.out G10_120.out (bytesA (fbytes v2)))
                have N10_126 := Lib.hid (N10_124.out.row (bytesA (fbytes v2)))
                have N9_126 := Lib.hid (N9_124.out.rowFar (g' := _) (fun e => NE120.out (by first | exact e | exact e.symm)) (bytesA (fbytes v2)))
                clear hK K
                (try simp only [Act.put, List.setIfInBounds_toArray, List.set_cons_zero, List.set_cons_succ])
                refine wpAnyH_done (by kernel_rfl) ?_ _
                go_wp2_with fail
                go_meet
                exact ⟨_, _, rfl, rfl, N9_126.out, N10_126.out, H126.out⟩
      case br110_9 =>
        go_simp
        refine hK.out _ _ ?_ (fun hHeld => ?_)
        · exact (H109.out.alloc H109.out.size _)
        have H127 := Lib.hid (H109.out.alloc H109.out.size (.cells z 24))
        have NE127 := Lib.hid (blk_ne2 N9_109.out)
        have N9_127 := Lib.hid (N9_109.out.alloc (.cells z 24))
        have N10_127 := Lib.hid (alloc_new2 H109.out 24 z)
        have G10_127 := Lib.hid (alloc_size2 H109.out)
        clear hK K
        (try simp only [Act.put, List.setIfInBounds_toArray, List.set_cons_zero, List.set_cons_succ])
        refine wpAnyH_ready (rs := [3]) (by kernel_rfl) (by simp) ?_
        refine' (AllReadyH.cons (o := _) ?hir128_3 (fun K hK => ?br128_3) AllReadyH.nil)
        case hir128_3 => (simp only [List.getElem?_toArray, List.getElem?_cons_succ, List.getElem?_cons_zero]; rfl)
        case br128_3 =>
          go_simp
          refine (C1.out _ (H.old HQ1.out H127.out)).mono ?_
          rintro e w129 ⟨rfl, hb129⟩
          have H129 := Lib.hid (H127.out.trans (hb129.mono H127.out.size))
          have N9_129 := Lib.hid (N9_127.out.old hb129)
          have N10_129 := Lib.hid (N10_127.out.old hb129)
          clear hb129
          go_wp2_with fail
          refine hK.out _ _ ?_ (fun hHeld => ?_)
          exact H129.out
          clear hK K
          (try simp only [Act.put, List.setIfInBounds_toArray, List.set_cons_zero, List.set_cons_succ])
          refine wpAnyH_ready (rs := [7]) (by kernel_rfl) (by simp) ?_
          refine' (AllReadyH.cons (o := _) ?hir130_7 (fun K hK => ?br130_7) AllReadyH.nil)
          case hir130_7 => (simp only [List.getElem?_toArray, List.getElem?_cons_succ, List.getElem?_cons_zero]; rfl)
          case br130_7 =>
            go_simp
            refine (C2.out _ (H.old HQ1.out H129.out)).mono ?_
            rintro e w131 ⟨rfl, hb131⟩
            have H131 := Lib.hid (H129.out.trans (hb131.mono H129.out.size))
            have N9_131 := Lib.hid (N9_129.out.old hb131)
            have N10_131 := Lib.hid (N10_129.out.old hb131)
            clear hb131
            go_wp2_with fail
            refine hK.out _ _ ?_ (fun hHeld => ?_)
            exact H131.out
            clear hK K
            (try simp only [Act.put, List.setIfInBounds_toArray, List.set_cons_zero, List.set_cons_succ])
            refine wpAnyH_ready (rs := [10]) (by kernel_rfl) (by simp) ?_
            refine' (AllReadyH.cons (o := _) ?hir132_10 (fun K hK => ?br132_10) AllReadyH.nil)
            case hir132_10 => (simp only [List.getElem?_toArray, List.getElem?_cons_succ, List.getElem?_cons_zero]; rfl)
            case br132_10 =>
              refine step_of_wp rfl ?_
              refine wp_store_row 24 (.tmp 9) (.tmp 17) rfl _ (bytesA (fbytes v1)) rfl rfl 24 z N9_131.out ok1.out.1 ok1.out.2.2 ok1.out.2.1 ?_
              refine hK.out _ _ ?_ (fun hHeld => ?_)
              exact below_row H131.out G9_109.out _
              have H133 := Lib.hid (below_row H131.out G9_109.out (bytesA (fbytes v1)))
              have N9_133 := Lib.hid (N9_131.out.row (bytesA (fbytes v1)))
              have N10_133 := Lib.hid (N10_131.out.rowFar (g' := _) (fun e => NE127.out (by first | exact e | exact e.symm)) (bytesA (fbytes v1)))
              clear hK K
              (try simp only [Act.put, List.setIfInBounds_toArray, List.set_cons_zero, List.set_cons_succ])
              refine wpAnyH_ready (rs := [11]) (by kernel_rfl) (by simp) ?_
              refine' (AllReadyH.cons (o := _) ?hir134_11 (fun K hK => ?br134_11) AllReadyH.nil)
              case hir134_11 => (simp only [List.getElem?_toArray, List.getElem?_cons_succ, List.getElem?_cons_zero]; rfl)
              case br134_11 =>
                refine step_of_wp rfl ?_
                refine wp_store_row 24 (.tmp 10) (.tmp 21) rfl _ (bytesA (fbytes v2)) rfl rfl 24 z N10_133.out ok2.out.1 ok2.out.2.2 ok2.out.2.1 ?_
                refine hK.out _ _ ?_ (fun hHeld => ?_)
                exact below_row H133.out G10_127.out _
                have H135 := Lib.hid (below_row H133.out G10_127.out (bytesA (fbytes v2)))
                have N10_135 := Lib.hid (N10_133.out.row (bytesA (fbytes v2)))
                have N9_135 := Lib.hid (N9_133.out.rowFar (g' := _) (fun e => NE127.out (by first | exact e | exact e.symm)) (bytesA (fbytes v2)))
                clear hK K
                (try simp only [Act.put, List.setIfInBounds_toArray, List.set_cons_zero, List.set_cons_succ])
                refine wpAnyH_done (by kernel_rfl) ?_ _
                go_wp2_with fail
                go_meet
                exact ⟨_, _, rfl, rfl, N9_135.out, N10_135.out, H135.out⟩
    case br58_9 =>
      go_simp
      refine hK.out _ _ ?_ (fun hHeld => ?_)
      · exact (HBW3.out.alloc HBW3.out.size _)
      have H136 := Lib.hid (HBW3.out.alloc HBW3.out.size (.cells z 24))
      have N10_136 := Lib.hid (alloc_new HBW3.out 24 z)
      have G10_136 := Lib.hid HBW3.out.size
      clear hK K
      (try simp only [Act.put, List.setIfInBounds_toArray, List.set_cons_zero, List.set_cons_succ])
      refine wpAnyH_ready (rs := [3, 8]) (by kernel_rfl) (by simp) ?_
      refine' (AllReadyH.cons (o := _) ?hir137_3 (fun K hK => ?br137_3) (AllReadyH.cons (o := _) ?hir137_8 (fun K hK => ?br137_8) AllReadyH.nil))
      case hir137_3 => (simp only [List.getElem?_toArray, List.getElem?_cons_succ, List.getElem?_cons_zero]; rfl)
      case hir137_8 => (simp only [List.getElem?_toArray, List.getElem?_cons_succ, List.getElem?_cons_zero]; rfl)
      case br137_3 =>
        go_simp
        refine (C1.out _ (H.old HQ1.out H136.out)).mono ?_
        rintro e w138 ⟨rfl, hb138⟩
        have H138 := Lib.hid (H136.out.trans (hb138.mono H136.out.size))
        have N10_138 := Lib.hid (N10_136.out.old hb138)
        clear hb138
        go_wp2_with fail
        refine hK.out _ _ ?_ (fun hHeld => ?_)
        exact H138.out
        clear hK K
        (try simp only [Act.put, List.setIfInBounds_toArray, List.set_cons_zero, List.set_cons_succ])
        refine wpAnyH_ready (rs := [7, 8]) (by kernel_rfl) (by simp) ?_
        refine' (AllReadyH.cons (o := _) ?hir139_7 (fun K hK => ?br139_7) (AllReadyH.cons (o := _) ?hir139_8 (fun K hK => ?br139_8) AllReadyH.nil))
        case hir139_7 => (simp only [List.getElem?_toArray, List.getElem?_cons_succ, List.getElem?_cons_zero]; rfl)
        case hir139_8 => (simp only [List.getElem?_toArray, List.getElem?_cons_succ, List.getElem?_cons_zero]; rfl)
        case br139_7 =>
          go_simp
          refine (C2.out _ (H.old HQ1.out H138.out)).mono ?_
          rintro e w140 ⟨rfl, hb140⟩
          have H140 := Lib.hid (H138.out.trans (hb140.mono H138.out.size))
          have N10_140 := Lib.hid (N10_138.out.old hb140)
          clear hb140
          go_wp2_with fail
          refine hK.out _ _ ?_ (fun hHeld => ?_)
          exact H140.out
          clear hK K
          (try simp only [Act.put, List.setIfInBounds_toArray, List.set_cons_zero, List.set_cons_succ])
          refine wpAnyH_ready (rs := [8]) (by kernel_rfl) (by simp) ?_
          refine' (AllReadyH.cons (o := _) ?hir141_8 (fun K hK => ?br141_8) AllReadyH.nil)
          case hir141_8 => (simp only [List.getElem?_toArray, List.getElem?_cons_succ, List.getElem?_cons_zero]; rfl)
          case br141_8 =>
            go_simp
            refine hK.out _ _ ?_ (fun hHeld => ?_)
            · exact (H140.out.alloc H140.out.size _)
            have H142 := Lib.hid (H140.out.alloc H140.out.size (.cells z 24))
            have NE142 := Lib.hid (Nat.ne_of_lt N10_140.out.lt)
            have N10_142 := Lib.hid (N10_140.out.alloc (.cells z 24))
            have N9_142 := Lib.hid (alloc_new H140.out 24 z)
            have G9_142 := Lib.hid H140.out.size
            clear hK K
            (try simp only [Act.put, List.setIfInBounds_toArray, List.set_cons_zero, List.set_cons_succ])
            refine wpAnyH_ready (rs := [10]) (by kernel_rfl) (by simp) ?_
            refine' (AllReadyH.cons (o := _) ?hir143_10 (fun K hK => ?br143_10) AllReadyH.nil)
            case hir143_10 => (simp only [List.getElem?_toArray, List.getElem?_cons_succ, List.getElem?_cons_zero]; rfl)
            case br143_10 =>
              refine step_of_wp rfl ?_
              refine wp_store_row 24 (.tmp 9) (.tmp 17) rfl _ (bytesA (fbytes v1)) rfl rfl 24 z N9_142.out ok1.out.1 ok1.out.2.2 ok1.out.2.1 ?_
              refine hK.out _ _ ?_ (fun hHeld => ?_)
              exact below_row H142.out G9_142.out _
              have H144 := Lib.hid (below_row H142.out G9_142.out (bytesA (fbytes v1)))
              have N9_144 := Lib.hid (N9_142.out.row (bytesA (fbytes v1)))
              have N10_144 := Lib.hid (N10_142.out.rowFar (g' := _) (fun e => NE142.out (by first | exact e | exact e.symm)) (bytesA (fbytes v1)))
              clear hK K
              (try simp only [Act.put, List.setIfInBounds_toArray, List.set_cons_zero, List.set_cons_succ])
              refine wpAnyH_ready (rs := [11]) (by kernel_rfl) (by simp) ?_
              refine' (AllReadyH.cons (o := _) ?hir145_11 (fun K hK => ?br145_11) AllReadyH.nil)
              case hir145_11 => (simp only [List.getElem?_toArray, List.getElem?_cons_succ, List.getElem?_cons_zero]; rfl)
              case br145_11 =>
                refine step_of_wp rfl ?_
                refine wp_store_row 24 (.tmp 10) (.tmp 21) rfl _ (bytesA (fbytes v2)) rfl rfl 24 z N10_144.out ok2.out.1 ok2.out.2.2 ok2.out.2.1 ?_
                refine hK.out _ _ ?_ (fun hHeld => ?_)
                exact below_row H144.out G10_136.out _
                have H146 := Lib.hid (below_row H144.out G10_136.out (bytesA (fbytes v2)))
                have N10_146 := Lib.hid (N10_144.out.row (bytesA (fbytes v2)))
                have N9_146 := Lib.hid (N9_144.out.rowFar (g' := _) (fun e => NE142.out (by first | exact e | exact e.symm)) (bytesA (fbytes v2)))
                clear hK K
                (try simp only [Act.put, List.setIfInBounds_toArray, List.set_cons_zero, List.set_cons_succ])
                refine wpAnyH_done (by kernel_rfl) ?_ _
                go_wp2_with fail
                go_meet
                exact ⟨_, _, rfl, rfl, N9_146.out, N10_146.out, H146.out⟩
        case br139_8 =>
          go_simp
          refine hK.out _ _ ?_ (fun hHeld => ?_)
          · exact (H138.out.alloc H138.out.size _)
          have H147 := Lib.hid (H138.out.alloc H138.out.size (.cells z 24))
          have NE147 := Lib.hid (Nat.ne_of_lt N10_138.out.lt)
          have N10_147 := Lib.hid (N10_138.out.alloc (.cells z 24))
          have N9_147 := Lib.hid (alloc_new H138.out 24 z)
          have G9_147 := Lib.hid H138.out.size
          clear hK K
          (try simp only [Act.put, List.setIfInBounds_toArray, List.set_cons_zero, List.set_cons_succ])
          refine wpAnyH_ready (rs := [7]) (by kernel_rfl) (by simp) ?_
          refine' (AllReadyH.cons (o := _) ?hir148_7 (fun K hK => ?br148_7) AllReadyH.nil)
          case hir148_7 => (simp only [List.getElem?_toArray, List.getElem?_cons_succ, List.getElem?_cons_zero]; rfl)
          case br148_7 =>
            go_simp
            refine (C2.out _ (H.old HQ1.out H147.out)).mono ?_
            rintro e w149 ⟨rfl, hb149⟩
            have H149 := Lib.hid (H147.out.trans (hb149.mono H147.out.size))
            have N10_149 := Lib.hid (N10_147.out.old hb149)
            have N9_149 := Lib.hid (N9_147.out.old hb149)
            clear hb149
            go_wp2_with fail
            refine hK.out _ _ ?_ (fun hHeld => ?_)
            exact H149.out
            clear hK K
            (try simp only [Act.put, List.setIfInBounds_toArray, List.set_cons_zero, List.set_cons_succ])
            refine wpAnyH_ready (rs := [10]) (by kernel_rfl) (by simp) ?_
            refine' (AllReadyH.cons (o := _) ?hir150_10 (fun K hK => ?br150_10) AllReadyH.nil)
            case hir150_10 => (simp only [List.getElem?_toArray, List.getElem?_cons_succ, List.getElem?_cons_zero]; rfl)
            case br150_10 =>
              refine step_of_wp rfl ?_
              refine wp_store_row 24 (.tmp 9) (.tmp 17) rfl _ (bytesA (fbytes v1)) rfl rfl 24 z N9_149.out ok1.out.1 ok1.out.2.2 ok1.out.2.1 ?_
              refine hK.out _ _ ?_ (fun hHeld => ?_)
              exact below_row H149.out G9_147.out _
              have H151 := Lib.hid (below_row H149.out G9_147.out (bytesA (fbytes v1)))
              have N9_151 := Lib.hid (N9_149.out.row (bytesA (fbytes v1)))
              have N10_151 := Lib.hid (N10_149.out.rowFar (g' := _) (fun e => NE147.out (by first | exact e | exact e.symm)) (bytesA (fbytes v1)))
              clear hK K
              (try simp only [Act.put, List.setIfInBounds_toArray, List.set_cons_zero, List.set_cons_succ])
              refine wpAnyH_ready (rs := [11]) (by kernel_rfl) (by simp) ?_
              refine' (AllReadyH.cons (o := _) ?hir152_11 (fun K hK => ?br152_11) AllReadyH.nil)
              case hir152_11 => (simp only [List.getElem?_toArray, List.getElem?_cons_succ, List.getElem?_cons_zero]; rfl)
              case br152_11 =>
                refine step_of_wp rfl ?_
                refine wp_store_row 24 (.tmp 10) (.tmp 21) rfl _ (bytesA (fbytes v2)) rfl rfl 24 z N10_151.out ok2.out.1 ok2.out.2.2 ok2.out.2.1 ?_
                refine hK.out _ _ ?_ (fun hHeld => ?_)
                exact below_row H151.out G10_136.out _
                have H153 := Lib.hid (below_row H151.out G10_136.out (bytesA (fbytes v2)))
                have N10_153 := Lib.hid (N10_151.out.row (bytesA (fbytes v2)))
                have N9_153 := Lib.hid (N9_151.out.rowFar (g' := _) (fun e => NE147.out (by first | exact e | exact e.symm)) (bytesA (fbytes v2)))
                clear hK K
                (try simp only [Act.put, List.setIfInBounds_toArray, List.set_cons_zero, List.set_cons_succ])
                refine wpAnyH_done (by kernel_rfl) ?_ _
                go_wp2_with fail
                go_meet
                exact ⟨_, _, rfl, rfl, N9_153.out, N10_153.out, H153.out⟩
      case br137_8 =>
        go_simp
        refine hK.out _ _ ?_ (fun hHeld => ?_)
        · exact (H136.out.alloc H136.out.size _)
        have H154 := Lib.hid (H136.out.alloc H136.out.size (.cells z 24))
        have NE154 := Lib.hid (blk_ne2 N10_136.out)
        have N10_154 := Lib.hid (N10_136.out.alloc (.cells z 24))
        have N9_154 := Lib.hid (alloc_new2 H136.out 24 z)
        have G9_154 := Lib.hid (alloc_size2 H136.out)
        clear hK K
        (try simp only [Act.put, List.setIfInBounds_toArray, List.set_cons_zero, List.set_cons_succ])
        refine wpAnyH_ready (rs := [3]) (by kernel_rfl) (by simp) ?_
        refine' (AllReadyH.cons (o := _) ?hir155_3 (fun K hK => ?br155_3) AllReadyH.nil)
        case hir155_3 => (simp only [List.getElem?_toArray, List.getElem?_cons_succ, List.getElem?_cons_zero]; rfl)
        case br155_3 =>
          go_simp
          refine (C1.out _ (H.old HQ1.out H154.out)).mono ?_
          rintro e w156 ⟨rfl, hb156⟩
          have H156 := Lib.hid (H154.out.trans (hb156.mono H154.out.size))
          have N10_156 := Lib.hid (N10_154.out.old hb156)
          have N9_156 := Lib.hid (N9_154.out.old hb156)
          clear hb156
          go_wp2_with fail
          refine hK.out _ _ ?_ (fun hHeld => ?_)
          exact H156.out
          clear hK K
          (try simp only [Act.put, List.setIfInBounds_toArray, List.set_cons_zero, List.set_cons_succ])
          refine wpAnyH_ready (rs := [7]) (by kernel_rfl) (by simp) ?_
          refine' (AllReadyH.cons (o := _) ?hir157_7 (fun K hK => ?br157_7) AllReadyH.nil)
          case hir157_7 => (simp only [List.getElem?_toArray, List.getElem?_cons_succ, List.getElem?_cons_zero]; rfl)
          case br157_7 =>
            go_simp
            refine (C2.out _ (H.old HQ1.out H156.out)).mono ?_
            rintro e w158 ⟨rfl, hb158⟩
            have H158 := Lib.hid (H156.out.trans (hb158.mono H156.out.size))
            have N10_158 := Lib.hid (N10_156.out.old hb158)
            have N9_158 := Lib.hid (N9_156.out.old hb158)
            clear hb158
            go_wp2_with fail
            refine hK.out _ _ ?_ (fun hHeld => ?_)
            exact H158.out
            clear hK K
            (try simp only [Act.put, List.setIfInBounds_toArray, List.set_cons_zero, List.set_cons_succ])
            refine wpAnyH_ready (rs := [10]) (by kernel_rfl) (by simp) ?_
            refine' (AllReadyH.cons (o := _) ?hir159_10 (fun K hK => ?br159_10) AllReadyH.nil)
            case hir159_10 => (simp only [List.getElem?_toArray, List.getElem?_cons_succ, List.getElem?_cons_zero]; rfl)
            case br159_10 =>
              refine step_of_wp rfl ?_
              refine wp_store_row 24 (.tmp 9) (.tmp 17) rfl _ (bytesA (fbytes v1)) rfl rfl 24 z N9_158.out ok1.out.1 ok1.out.2.2 ok1.out.2.1 ?_
              refine hK.out _ _ ?_ (fun hHeld => ?_)
              exact below_row H158.out G9_154.out _
              have H160 := Lib.hid (below_row H158.out G9_154.out (bytesA (fbytes v1)))
              have N9_160 := Lib.hid (N9_158.out.row (bytesA (fbytes v1)))
              have N10_160 := Lib.hid (N10_158.out.rowFar (g' := _) (fun e => NE154.out (by first | exact e | exact e.symm)) (bytesA (fbytes v1)))
              clear hK K
              (try simp only [Act.put, List.setIfInBounds_toArray, List.set_cons_zero, List.set_cons_succ])
              refine wpAnyH_ready (rs := [11]) (by kernel_rfl) (by simp) ?_
              refine' (AllReadyH.cons (o := _) ?hir161_11 (fun K hK => ?br161_11) AllReadyH.nil)
              case hir161_11 => (simp only [List.getElem?_toArray, List.getElem?_cons_succ, List.getElem?_cons_zero]; rfl)
              case br161_11 =>
                refine step_of_wp rfl ?_
                refine wp_store_row 24 (.tmp 10) (.tmp 21) rfl _ (bytesA (fbytes v2)) rfl rfl 24 z N10_160.out ok2.out.1 ok2.out.2.2 ok2.out.2.1 ?_
                refine hK.out _ _ ?_ (fun hHeld => ?_)
                exact below_row H160.out G10_136.out _
                have H162 := Lib.hid (below_row H160.out G10_136.out (bytesA (fbytes v2)))
                have N10_162 := Lib.hid (N10_160.out.row (bytesA (fbytes v2)))
                have N9_162 := Lib.hid (N9_160.out.rowFar (g' := _) (fun e => NE154.out (by first | exact e | exact e.symm)) (bytesA (fbytes v2)))
                clear hK K
                (try simp only [Act.put, List.setIfInBounds_toArray, List.set_cons_zero, List.set_cons_succ])
                refine wpAnyH_done (by kernel_rfl) ?_ _
                go_wp2_with fail
                go_meet
                exact ⟨_, _, rfl, rfl, N9_162.out, N10_162.out, H162.out⟩
  case rest =>
    obtain ⟨g9, g10, rfl, rfl, x9, x10, hb2⟩ := hcut
    have X9 := Lib.hid x9
    have X10 := Lib.hid x10
    have X3 := Lib.hid (X3.out.old hb2)
    have X4 := Lib.hid (X4.out.old hb2)
    have X5 := Lib.hid (X5.out.old hb2)
    have X7 := Lib.hid (X7.out.old hb2)
    have X8 := Lib.hid (X8.out.old hb2)
    have HB := Lib.hid (HB.out.trans (hb2.mono HB.out.size))
    have HQ1 := Lib.hid (H.old HQ1.out hb2)
    clear x9 x10 hb2
    go_upto_region 5 with (first | (refine wpList_load_row rfl 24 (.tmp 7) rfl g7 rfl 24 co (0, 0) _ X7.out Tryd.underlying24 rfl oko.out.1 ?_) |
      (refine wpList_load_row rfl 24 (.tmp 4) rfl (w.heap.size + 1) rfl 24 ca1 (0, 0) _ X4.out Tryd.underlying24 rfl hia1.out ?_) |
      (refine wpList_load_row rfl 24 (.tmp 5) rfl (w.heap.size + 2) rfl 24 ca2 (0, 0) _ X5.out Tryd.underlying24 rfl hia2.out ?_))
    refine (C3.out _ HQ1.out).mono ?_
    rintro e w1 ⟨rfl, hb1⟩
    have hb2 := hb1.trans ((below_new1 w1 (.cells (bytesA (fbytes v3)) 24)).mono hb1.size)
    have X11 := Lib.hid (Blk.new w1 24 (bytesA (fbytes v3)))
    have X3 := Lib.hid (X3.out.old hb2)
    have X7 := Lib.hid (X7.out.old hb2)
    have X8 := Lib.hid (X8.out.old hb2)
    have X9 := Lib.hid (X9.out.old hb2)
    have X10 := Lib.hid (X10.out.old hb2)
    have HB := Lib.hid (HB.out.trans (hb2.mono HB.out.size))
    have HQ1 := Lib.hid (H.old HQ1.out hb2)
    clear hb1 hb2 X4 X5
    go_upto_region 5 with (first | (refine wpList_store_row rfl 24 (.tmp 11) (.tmp 25) rfl w1.heap.size (bytesA (fbytes v3)) rfl rfl 24 z (heap_alloc_new w1 _) ok3.out.1 ok3.out.2.2 ok3.out.2.1 ?_; rw [setRow_alloc1]))
    generalize w1.alloc (.cells (bytesA (fbytes v3)) 24) = W1 at *
    generalize w1.heap.size = g11 at *
    have hsl0 := slice32 w.heap.size
    have R0 : Hid (∀ V, Below W1.heap.size W1 V → Reads V V.heap.size 1 (some ⟨w.heap.size, 0, none⟩) 32 (Lib.byteCells (fbytes x0))) := Lib.hid fun V hV => HRB.out V _ _ (by rw [← hca0.out]; exact X3.out.old hV)
    clear hz0
    (try simp only [Act.put, List.setIfInBounds_toArray, List.set_cons_zero, List.set_cons_succ])
    refine wp_region_held_drew (S := fun V => Below W1.heap.size W1 V) (by kernel_rfl) (Below.refl _ _).drew (fun hHeld => ?_)
    have HBW1 := Lib.hid ((Below.refl W1.heap.size W1).drew)
    generalize W1.drew = VW1 at *
    refine' wpAnyH_take (i := 0) (oi := _) (v := .agg ca0) ?hit163 ?hst163 ?hft163 ?hrt163 ?hQt163 ?hyt163 ?hSt163 ?_
    case hit163 => (simp only [List.getElem?_toArray, List.getElem?_cons_succ, List.getElem?_cons_zero]; rfl)
    case hst163 => kernel_rfl
    case hft163 => kernel_rfl
    case hrt163 => kernel_rfl
    case hQt163 => exact fun _ _ _ h => h
    case hSt163 => assumption
    case hyt163 =>
      refine Or.inl ⟨by rfl, ?_⟩
      intro W hS
      exact quiet_load_row 24 (.tmp 3) _ rfl 24 ca0 _ (X3.out.old hS) Tryd.underlying24 rfl hia0.out rfl
    (try simp only [Act.put, List.setIfInBounds_toArray, List.set_cons_zero, List.set_cons_succ])
    refine' wpAnyH_take (i := 1) (oi := _) (v := .agg (bytesA (fbytes v3))) ?hit164 ?hst164 ?hft164 ?hrt164 ?hQt164 ?hyt164 ?hSt164 ?_
    case hit164 => (simp only [List.getElem?_toArray, List.getElem?_cons_succ, List.getElem?_cons_zero]; rfl)
    case hst164 => kernel_rfl
    case hft164 => kernel_rfl
    case hrt164 => kernel_rfl
    case hQt164 => exact fun _ _ _ h => h
    case hSt164 => assumption
    case hyt164 =>
      refine Or.inl ⟨by rfl, ?_⟩
      intro W hS
      exact quiet_load_row 24 (.tmp 11) _ rfl 24 (bytesA (fbytes v3)) _ (X11.out.old hS) Tryd.underlying24 rfl ok3.out.1 rfl
    (try simp only [Act.put, List.setIfInBounds_toArray, List.set_cons_zero, List.set_cons_succ])
    refine' wpAnyH_take (i := 2) (oi := _) (v := .agg cn) ?hit165 ?hst165 ?hft165 ?hrt165 ?hQt165 ?hyt165 ?hSt165 ?_
    case hit165 => (simp only [List.getElem?_toArray, List.getElem?_cons_succ, List.getElem?_cons_zero]; rfl)
    case hst165 => kernel_rfl
    case hft165 => kernel_rfl
    case hrt165 => kernel_rfl
    case hQt165 => exact fun _ _ _ h => h
    case hSt165 => assumption
    case hyt165 =>
      refine Or.inl ⟨by rfl, ?_⟩
      intro W hS
      exact quiet_load_row 24 (.tmp 8) _ rfl 24 cn _ (X8.out.old hS) Tryd.underlying24 rfl okn.out.1 rfl
    (try simp only [Act.put, List.setIfInBounds_toArray, List.set_cons_zero, List.set_cons_succ])
    refine' wpAnyH_take (i := 4) (oi := _) (v := .agg co) ?hit166 ?hst166 ?hft166 ?hrt166 ?hQt166 ?hyt166 ?hSt166 ?_
    case hit166 => (simp only [List.getElem?_toArray, List.getElem?_cons_succ, List.getElem?_cons_zero]; rfl)
    case hst166 => kernel_rfl
    case hft166 => kernel_rfl
    case hrt166 => kernel_rfl
    case hQt166 => exact fun _ _ _ h => h
    case hSt166 => assumption
    case hyt166 =>
      refine Or.inl ⟨by rfl, ?_⟩
      intro W hS
      exact quiet_load_row 24 (.tmp 7) _ rfl 24 co _ (X7.out.old hS) Tryd.underlying24 rfl oko.out.1 rfl
    (try simp only [Act.put, List.setIfInBounds_toArray, List.set_cons_zero, List.set_cons_succ])
    refine' wpAnyH_take (i := 5) (oi := _) (v := .agg (bytesA (fbytes v1))) ?hit167 ?hst167 ?hft167 ?hrt167 ?hQt167 ?hyt167 ?hSt167 ?_
    case hit167 => (simp only [List.getElem?_toArray, List.getElem?_cons_succ, List.getElem?_cons_zero]; rfl)
    case hst167 => kernel_rfl
    case hft167 => kernel_rfl
    case hrt167 => kernel_rfl
    case hQt167 => exact fun _ _ _ h => h
    case hSt167 => assumption
    case hyt167 =>
      refine Or.inl ⟨by rfl, ?_⟩
      intro W hS
      exact quiet_load_row 24 (.tmp 9) _ rfl 24 (bytesA (fbytes v1)) _ (X9.out.old hS) Tryd.underlying24 rfl ok1.out.1 rfl
    (try simp only [Act.put, List.setIfInBounds_toArray, List.set_cons_zero, List.set_cons_succ])
    refine' wpAnyH_take (i := 6) (oi := _) (v := .agg (bytesA (fbytes v2))) ?hit168 ?hst168 ?hft168 ?hrt168 ?hQt168 ?hyt168 ?hSt168 ?_
    case hit168 => (simp only [List.getElem?_toArray, List.getElem?_cons_succ, List.getElem?_cons_zero]; rfl)
    case hst168 => kernel_rfl
    case hft168 => kernel_rfl
    case hrt168 => kernel_rfl
    case hQt168 => exact fun _ _ _ h => h
    case hSt168 => assumption
    case hyt168 =>
      refine Or.inl ⟨by rfl, ?_⟩
      intro W hS
      exact quiet_load_row 24 (.tmp 10) _ rfl 24 (bytesA (fbytes v2)) _ (X10.out.old hS) Tryd.underlying24 rfl ok2.out.1 rfl
    (try simp only [Act.put, List.setIfInBounds_toArray, List.set_cons_zero, List.set_cons_succ])
    refine wpAnyH_ready (rs := [3]) (by kernel_rfl) (by simp) ?_
    refine' (AllReadyH.cons (o := _) ?hir169_3 (fun K hK => ?br169_3) AllReadyH.nil)
    case hir169_3 => (simp only [List.getElem?_toArray, List.getElem?_cons_succ, List.getElem?_cons_zero]; rfl)
    case br169_3 =>
      go_simp
      refine (C4.out _ (H.old HQ1.out HBW1.out)).mono ?_
      rintro e w170 ⟨rfl, hb170⟩
      have H170 := Lib.hid (HBW1.out.trans (hb170.mono HBW1.out.size))
      clear hb170
      go_wp2_with fail
      refine hK.out _ _ ?_ (fun hHeld => ?_)
      exact H170.out
      clear hK K
      (try simp only [Act.put, List.setIfInBounds_toArray, List.set_cons_zero, List.set_cons_succ])
      refine wpAnyH_ready (rs := [7]) (by kernel_rfl) (by simp) ?_
      refine' (AllReadyH.cons (o := _) ?hir171_7 (fun K hK => ?br171_7) AllReadyH.nil)
      case hir171_7 => (simp only [List.getElem?_toArray, List.getElem?_cons_succ, List.getElem?_cons_zero]; rfl)
      case br171_7 =>
        go_simp
        refine (C5.out _ (H.old HQ1.out H170.out)).mono ?_
        rintro e w172 ⟨rfl, hb172⟩
        have H172 := Lib.hid (H170.out.trans (hb172.mono H170.out.size))
        clear hb172
        go_wp2_with fail
        refine hK.out _ _ ?_ (fun hHeld => ?_)
        exact H172.out
        clear hK K
        (try simp only [Act.put, List.setIfInBounds_toArray, List.set_cons_zero, List.set_cons_succ])
        refine' wpAnyH_take (i := 8) (oi := _) (v := .bool true) ?hit173 ?hst173 ?hft173 ?hrt173 ?hQt173 ?hyt173 ?hSt173 ?_
        case hit173 => (simp only [List.getElem?_toArray, List.getElem?_cons_succ, List.getElem?_cons_zero]; rfl)
        case hst173 => kernel_rfl
        case hft173 => kernel_rfl
        case hrt173 => kernel_rfl
        case hQt173 => exact fun _ _ _ h => h
        case hSt173 => assumption
        case hyt173 =>
          refine Or.inl ⟨by rfl, ?_⟩
          intro W hS
          exact quiet_eqb_bytes W (.tmp 29) (.tmp 33) _ (fbytes v4) (fbytes v4) true (decide_eq_true rfl) (fbytes_length _) (fbytes_length _) rfl rfl rfl
        (try simp only [Act.put, List.setIfInBounds_toArray, List.set_cons_zero, List.set_cons_succ])
        refine' wpAnyH_take (i := 9) (oi := _) (v := _) ?hit174 ?hst174 ?hft174 ?hrt174 ?hQt174 ?hyt174 ?hSt174 ?_
        case hit174 => (simp only [List.getElem?_toArray, List.getElem?_cons_succ, List.getElem?_cons_zero]; rfl)
        case hst174 => kernel_rfl
        case hft174 => kernel_rfl
        case hrt174 => kernel_rfl
        case hQt174 => exact fun _ _ _ h => h
        case hSt174 => assumption
        case hyt174 =>
          refine Or.inl ⟨by rfl, ?_⟩
          intro w hSw
          (try dsimp only at hSw)
          go_simp
          all_goals (with_reducible rfl)
        (try simp only [Act.put, List.setIfInBounds_toArray, List.set_cons_zero, List.set_cons_succ])
        refine' wpAnyH_take (i := 10) (oi := _) (v := .agg co) ?hit175 ?hst175 ?hft175 ?hrt175 ?hQt175 ?hyt175 ?hSt175 ?_
        case hit175 => (simp only [List.getElem?_toArray, List.getElem?_cons_succ, List.getElem?_cons_zero]; rfl)
        case hst175 => kernel_rfl
        case hft175 => kernel_rfl
        case hrt175 => kernel_rfl
        case hQt175 => exact fun _ _ _ h => h
        case hSt175 => assumption
        case hyt175 =>
          refine Or.inl ⟨by rfl, ?_⟩
          intro W hS
          exact quiet_load_row 24 (.tmp 7) _ rfl 24 co _ (X7.out.old hS) Tryd.underlying24 rfl oko.out.1 rfl
        (try simp only [Act.put, List.setIfInBounds_toArray, List.set_cons_zero, List.set_cons_succ])
        refine' wpAnyH_take (i := 11) (oi := _) (v := .agg ca0) ?hit176 ?hst176 ?hft176 ?hrt176 ?hQt176 ?hyt176 ?hSt176 ?_
        case hit176 => (simp only [List.getElem?_toArray, List.getElem?_cons_succ, List.getElem?_cons_zero]; rfl)
        case hst176 => kernel_rfl
        case hft176 => kernel_rfl
        case hrt176 => kernel_rfl
        case hQt176 => exact fun _ _ _ h => h
        case hSt176 => assumption
        case hyt176 =>
          refine Or.inl ⟨by rfl, ?_⟩
          intro W hS
          exact quiet_load_row 24 (.tmp 3) _ rfl 24 ca0 _ (X3.out.old hS) Tryd.underlying24 rfl hia0.out rfl
        (try simp only [Act.put, List.setIfInBounds_toArray, List.set_cons_zero, List.set_cons_succ])
        refine' wpAnyH_take (i := 12) (oi := _) (v := .agg cn) ?hit177 ?hst177 ?hft177 ?hrt177 ?hQt177 ?hyt177 ?hSt177 ?_
        case hit177 => (simp only [List.getElem?_toArray, List.getElem?_cons_succ, List.getElem?_cons_zero]; rfl)
        case hst177 => kernel_rfl
        case hft177 => kernel_rfl
        case hrt177 => kernel_rfl
        case hQt177 => exact fun _ _ _ h => h
        case hSt177 => assumption
        case hyt177 =>
          refine Or.inl ⟨by rfl, ?_⟩
          intro W hS
          exact quiet_load_row 24 (.tmp 8) _ rfl 24 cn _ (X8.out.old hS) Tryd.underlying24 rfl okn.out.1 rfl
        (try simp only [Act.put, List.setIfInBounds_toArray, List.set_cons_zero, List.set_cons_succ])
        refine' wpAnyH_take (i := 14) (oi := _) (v := _) ?hit178 ?hst178 ?hft178 ?hrt178 ?hQt178 ?hyt178 ?hSt178 ?_
        case hit178 => (simp only [List.getElem?_toArray, List.getElem?_cons_succ, List.getElem?_cons_zero]; rfl)
        case hst178 => kernel_rfl
        case hft178 => kernel_rfl
        case hrt178 => kernel_rfl
        case hQt178 => exact fun _ _ _ h => h
        case hSt178 => assumption
        case hyt178 =>
          refine Or.inl ⟨by rfl, ?_⟩
          intro w hSw
          (try dsimp only at hSw)
          go_simp
          all_goals (with_reducible rfl)
        (try simp only [Act.put, List.setIfInBounds_toArray, List.set_cons_zero, List.set_cons_succ])
        refine wpAnyH_ready (rs := [13]) (by kernel_rfl) (by simp) ?_
        refine' (AllReadyH.cons (o := _) ?hir179_13 (fun K hK => ?br179_13) AllReadyH.nil)
        case hir179_13 => (simp only [List.getElem?_toArray, List.getElem?_cons_succ, List.getElem?_cons_zero]; rfl)
        case br179_13 =>
          go_simp
          refine (C6.out _ (H.old HQ1.out H172.out)).mono ?_
          rintro e w180 ⟨rfl, hb180⟩
          have H180 := Lib.hid (H172.out.trans (hb180.mono H172.out.size))
          clear hb180
          go_wp2_with fail
          refine hK.out _ _ ?_ (fun hHeld => ?_)
          exact H180.out
          clear hK K
          (try simp only [Act.put, List.setIfInBounds_toArray, List.set_cons_zero, List.set_cons_succ])
          refine wpAnyH_ready (rs := [15]) (by kernel_rfl) (by simp) ?_
          refine' (AllReadyH.cons (o := _) ?hir181_15 (fun K hK => ?br181_15) AllReadyH.nil)
          case hir181_15 => (simp only [List.getElem?_toArray, List.getElem?_cons_succ, List.getElem?_cons_zero]; rfl)
          case br181_15 =>
            go_simp
            refine (C7.out _ _ (R0.out _ H180.out) (H.old HQ1.out H180.out)).mono ?_
            rintro e w182 ⟨rfl, hb182⟩
            have H182 := Lib.hid (H180.out.trans (hb182.mono H180.out.size))
            clear hb182
            go_wp2_with fail
            refine hK.out _ _ ?_ (fun hHeld => ?_)
            exact H182.out
            clear hK K
            (try simp only [Act.put, List.setIfInBounds_toArray, List.set_cons_zero, List.set_cons_succ])
            refine' wpAnyH_take (i := 16) (oi := _) (v := .bool true) ?hit183 ?hst183 ?hft183 ?hrt183 ?hQt183 ?hyt183 ?hSt183 ?_
            case hit183 => (simp only [List.getElem?_toArray, List.getElem?_cons_succ, List.getElem?_cons_zero]; rfl)
            case hst183 => kernel_rfl
            case hft183 => kernel_rfl
            case hrt183 => kernel_rfl
            case hQt183 => exact fun _ _ _ h => h
            case hSt183 => assumption
            case hyt183 =>
              refine Or.inl ⟨by rfl, ?_⟩
              intro W hS
              exact quiet_eqb_bytes W (.tmp 39) (.tmp 41) _ (fbytes v5) (fbytes v5) true (decide_eq_true rfl) (fbytes_length _) (fbytes_length _) rfl rfl rfl
            (try simp only [Act.put, List.setIfInBounds_toArray, List.set_cons_zero, List.set_cons_succ])
            refine' wpAnyH_take (i := 17) (oi := _) (v := _) ?hit184 ?hst184 ?hft184 ?hrt184 ?hQt184 ?hyt184 ?hSt184 ?_
            case hit184 => (simp only [List.getElem?_toArray, List.getElem?_cons_succ, List.getElem?_cons_zero]; rfl)
            case hst184 => kernel_rfl
            case hft184 => kernel_rfl
            case hrt184 => kernel_rfl
            case hQt184 => exact fun _ _ _ h => h
            case hSt184 => assumption
            case hyt184 =>
              refine Or.inl ⟨by rfl, ?_⟩
              intro w hSw
              (try dsimp only at hSw)
              go_simp
              all_goals (with_reducible rfl)
            (try simp only [Act.put, List.setIfInBounds_toArray, List.set_cons_zero, List.set_cons_succ])
            refine' wpAnyH_take (i := 18) (oi := _) (v := _) ?hit185 ?hst185 ?hft185 ?hrt185 ?hQt185 ?hyt185 ?hSt185 ?_
            case hit185 => (simp only [List.getElem?_toArray, List.getElem?_cons_succ, List.getElem?_cons_zero]; rfl)
            case hst185 => kernel_rfl
            case hft185 => kernel_rfl
            case hrt185 => kernel_rfl
            case hQt185 => exact fun _ _ _ h => h
            case hSt185 => assumption
            case hyt185 =>
              refine Or.inl ⟨by rfl, ?_⟩
              intro w hSw
              (try dsimp only at hSw)
              go_simp
              all_goals (with_reducible rfl)
            (try simp only [Act.put, List.setIfInBounds_toArray, List.set_cons_zero, List.set_cons_succ])
            refine wpAnyH_ready (rs := [19]) (by kernel_rfl) (by simp) ?_
            refine' (AllReadyH.cons (o := _) ?hir186_19 (fun K hK => ?br186_19) AllReadyH.nil)
            case hir186_19 => (simp only [List.getElem?_toArray, List.getElem?_cons_succ, List.getElem?_cons_zero]; rfl)
            case br186_19 =>
              go_simp
              refine (awake6_any H _ (H.old HQ1.out H182.out)).mono ?_
              rintro e w187 ⟨rfl, hb187⟩
              have H187 := Lib.hid (H182.out.trans (hb187.mono H182.out.size))
              clear hb187
              go_wp2_with fail
              refine hK.out _ _ ?_ (fun hHeld => ?_)
              exact H187.out
              clear hK K
              (try simp only [Act.put, List.setIfInBounds_toArray, List.set_cons_zero, List.set_cons_succ])
              refine' wpAnyH_take (i := 20) (oi := _) (v := _) ?hit188 ?hst188 ?hft188 ?hrt188 ?hQt188 ?hyt188 ?hSt188 ?_
              case hit188 => (simp only [List.getElem?_toArray, List.getElem?_cons_succ, List.getElem?_cons_zero]; rfl)
              case hst188 => kernel_rfl
              case hft188 => kernel_rfl
              case hrt188 => kernel_rfl
              case hQt188 => exact fun _ _ _ h => h
              case hSt188 => assumption
              case hyt188 =>
                refine Or.inl ⟨by rfl, ?_⟩
                intro w hSw
                (try dsimp only at hSw)
                go_simp
                all_goals (with_reducible rfl)
              (try simp only [Act.put, List.setIfInBounds_toArray, List.set_cons_zero, List.set_cons_succ])
              refine' wpAnyH_take (i := 21) (oi := _) (v := _) ?hit189 ?hst189 ?hft189 ?hrt189 ?hQt189 ?hyt189 ?hSt189 ?_
              case hit189 => (simp only [List.getElem?_toArray, List.getElem?_cons_succ, List.getElem?_cons_zero]; rfl)
              case hst189 => kernel_rfl
              case hft189 => kernel_rfl
              case hrt189 => kernel_rfl
              case hQt189 => exact fun _ _ _ h => h
              case hSt189 => assumption
              case hyt189 =>
                refine Or.inl ⟨by rfl, ?_⟩
                intro w hSw
                (try dsimp only at hSw)
                go_simp
                all_goals (with_reducible rfl)
              (try simp only [Act.put, List.setIfInBounds_toArray, List.set_cons_zero, List.set_cons_succ])
              refine wpAnyH_done (by kernel_rfl) ?_ _
              have hbe := Lib.hid (HB.out.trans (H187.out.mono HB.out.size))
              clear hHeld
              go_wp2_with fail
              go_ret
              exact ⟨rfl, hbe.out⟩
end Go.Proofs.YtebnkbeejkopaaaDoor
