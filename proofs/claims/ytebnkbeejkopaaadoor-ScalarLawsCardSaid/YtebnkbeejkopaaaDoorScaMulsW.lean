/-
  The walk of the law ScalarMuls. Condition: the program's numbers modulo L are as they must be.
-/
import Derived.Test.YtebnkbeejkopaaaDoorScaAwake
set_option linter.unusedVariables false
set_option linter.unusedSimpArgs false
namespace Go.Proofs.YtebnkbeejkopaaaDoor
open Go Go.Proofs Go.RowKit F5

theorem three_new (w : World) (ca0 ca1 ca2 : Array Value) : Blk (((w.alloc (.cells ca0 24)).alloc (.cells ca1 24)).alloc (.cells ca2 24)) w.heap.size 24 ca0 ∧ Blk (((w.alloc (.cells ca0 24)).alloc (.cells ca1 24)).alloc (.cells ca2 24)) (w.heap.size + 1) 24 ca1 ∧ Blk (((w.alloc (.cells ca0 24)).alloc (.cells ca1 24)).alloc (.cells ca2 24)) (w.heap.size + 2) 24 ca2 ∧ Below w.heap.size w (((w.alloc (.cells ca0 24)).alloc (.cells ca1 24)).alloc (.cells ca2 24)) := by
  have h1 := ((Blk.new w 24 ca0).alloc (.cells ca1 24)).alloc (.cells ca2 24)
  have h2 := (Blk.new (w.alloc (.cells ca0 24)) 24 ca1).alloc (.cells ca2 24)
  have h3 := Blk.new ((w.alloc (.cells ca0 24)).alloc (.cells ca1 24)) 24 ca2
  rw [show (w.alloc (.cells ca0 24)).heap.size = w.heap.size + 1 by simp] at h2
  rw [show ((w.alloc (.cells ca0 24)).alloc (.cells ca1 24)).heap.size = w.heap.size + 2 by simp] at h3
  exact ⟨h1, h2, h3, (((Below.refl _ _).alloc (Nat.le_refl _) _).alloc (by simp) _).alloc (by simp; omega) _⟩

set_option maxHeartbeats 16000000 in
set_option maxRecDepth 100000 in
theorem muls_walk {Q : World → Prop} (H : ScaOk Q) (x0 x1 x2 : Nat) (h0 : x0 < 2 ^ 256) (h1 : x1 < 2 ^ 256) (h2 : x2 < 2 ^ 256) (w : World) (hQ : Q w) :
    Calls Tryd.prog 4 #[.agg (bytesA (fbytes x0)), .agg (bytesA (fbytes x1)), .agg (bytesA (fbytes x2))] w fun e w' => e = .returned (.bool true) ∧ Below w.heap.size w w' := by
  obtain ⟨z, hz⟩ : ∃ z, Hid (z = bytesA (List.replicate 32 0)) := ⟨_, Lib.hid rfl⟩
  have hz0 : ∀ W, (zeroValue 24).run Tryd.prog W = .ok (.agg z) W := by
    rw [hz.out]; exact (zero_of_info (n := 32) (by kernel_rfl)).1
  have HQ := Lib.hid hQ
  have C1 : Hid (∀ V, Q V → Calls Tryd.prog 12 #[.agg (bytesA (fbytes x0)), .agg (bytesA (fbytes x1)), .agg (bytesA (fbytes x2))] V fun e w' => e = .returned (.agg (bytesA (fbytes ((x0 * x1 + x2) % LL)))) ∧ Below V.heap.size V w') := Lib.hid fun V hV => H.muladd x0 x1 x2 V h0 h1 h2 hV
  have C2 : Hid (∀ V, Q V → Calls Tryd.prog 12 #[.agg (bytesA (fbytes x1)), .agg (bytesA (fbytes x0)), .agg (bytesA (fbytes x2))] V fun e w' => e = .returned (.agg (bytesA (fbytes ((x0 * x1 + x2) % LL)))) ∧ Below V.heap.size V w') := Lib.hid fun V hV => by
    have := H.muladd x1 x0 x2 V h1 h0 h2 hV
    rwa [Nat.mul_comm x1 x0] at this
  have CF : Hid (∀ g0 g1 g2 V, Reads V V.heap.size 1 (some ⟨g0, 0, none⟩) 32 (Lib.byteCells (fbytes x0)) → Reads V V.heap.size 1 (some ⟨g1, 0, none⟩) 32 (Lib.byteCells (fbytes x1)) → Reads V V.heap.size 1 (some ⟨g2, 0, none⟩) 32 (Lib.byteCells (fbytes x2)) →
      Calls Tryd.prog 13 #[.slice (some ⟨g0, 0, none⟩) 32 32, .slice (some ⟨g1, 0, none⟩) 32 32, .slice (some ⟨g2, 0, none⟩) 32 32] V (Byt32 ((x0 * x1 + x2) % LL) V)) := Lib.hid fun g0 g1 g2 V r0 r1 r2 => by
    have := muladd_any _ _ _ 32 32 32 _ _ _ V r0 r1 r2
    rwa [bval_fbytes h0, bval_fbytes h1, bval_fbytes h2] at this
  obtain ⟨v, hv⟩ := named ((x0 * x1 + x2) % LL)
  rw [← hv.out] at C1 C2 CF
  have okv : Hid ((Tryd.prog.info? 24).map (·.size) = some (bytesA (fbytes v)).size ∧ (bytesA (fbytes v)).all (·.oneCell') = true ∧ z.size = (bytesA (fbytes v)).size) := Lib.hid ⟨fbytes_info _, bytesA_one _, by rw [hz.out, bytesA_size, bytesA_size, fbytes_length]; rfl⟩
  have HRB : Hid (∀ (V : World) (g x : Nat), Blk V g 24 (bytesA (fbytes x)) → Reads V V.heap.size 1 (some ⟨g, 0, none⟩) 32 (Lib.byteCells (fbytes x))) := Lib.hid fun V g x hb => by
    have := reads_blk hb
    rwa [fbytes_length] at this
  obtain ⟨ca0, hca0⟩ : ∃ x, Hid (x = bytesA (fbytes x0)) := ⟨_, Lib.hid rfl⟩
  have hia0 : Hid ((Tryd.prog.info? 24).map (·.size) = some ca0.size) := by rw [hca0.out]; exact Lib.hid (fbytes_info x0)
  obtain ⟨ca1, hca1⟩ : ∃ x, Hid (x = bytesA (fbytes x1)) := ⟨_, Lib.hid rfl⟩
  have hia1 : Hid ((Tryd.prog.info? 24).map (·.size) = some ca1.size) := by rw [hca1.out]; exact Lib.hid (fbytes_info x1)
  obtain ⟨ca2, hca2⟩ : ∃ x, Hid (x = bytesA (fbytes x2)) := ⟨_, Lib.hid rfl⟩
  have hia2 : Hid ((Tryd.prog.info? 24).map (·.size) = some ca2.size) := by rw [hca2.out]; exact Lib.hid (fbytes_info x2)
  rw [← hca0.out, ← hca1.out, ← hca2.out] at C1 C2 ⊢
  obtain ⟨b0, b1, b2, bb⟩ := three_new w ca0 ca1 ca2
  clear hv hQ h0 h1 h2
  go_enter Tryd.func4, Tryd.ntmps4
  go_upto_region 1 with fail
  generalize ((w.alloc (.cells ca0 24)).alloc (.cells ca1 24)).alloc (.cells ca2 24) = W at *
  have X0 := Lib.hid b0
  have X1 := Lib.hid b1
  have X2 := Lib.hid b2
  have HB := Lib.hid bb
  have HQ1 := Lib.hid (H.old HQ.out bb)
  clear b0 b1 b2 bb
  go_upto_region 2 with (first | (refine wpList_load_row rfl 24 (.tmp 3) rfl w.heap.size rfl 24 ca0 (0, 0) _ X0.out Tryd.underlying24 rfl hia0.out ?_) |
    (refine wpList_load_row rfl 24 (.tmp 4) rfl (w.heap.size + 1) rfl 24 ca1 (0, 0) _ X1.out Tryd.underlying24 rfl hia1.out ?_) |
    (refine wpList_load_row rfl 24 (.tmp 5) rfl (w.heap.size + 2) rfl 24 ca2 (0, 0) _ X2.out Tryd.underlying24 rfl hia2.out ?_))
  refine (C1.out _ HQ1.out).mono ?_
  rintro e w1 ⟨rfl, hb1⟩
  have hb2 := hb1.trans ((below_new1 w1 (.cells (bytesA (fbytes v)) 24)).mono hb1.size)
  have eS := Lib.hid (Blk.new w1 24 (bytesA (fbytes v)))
  have X0 := Lib.hid (X0.out.old hb2)
  have X1 := Lib.hid (X1.out.old hb2)
  have X2 := Lib.hid (X2.out.old hb2)
  have HB := Lib.hid (HB.out.trans (hb2.mono HB.out.size))
  have HQ1 := Lib.hid (H.old HQ1.out hb2)
  clear hb1 hb2
  go_upto_region 2 with (first | (refine wpList_store_row rfl 24 (.tmp 7) (.tmp 11) rfl w1.heap.size (bytesA (fbytes v)) rfl rfl 24 z (heap_alloc_new w1 _) okv.out.1 okv.out.2.2 okv.out.2.1 ?_; rw [setRow_alloc1]))
  generalize w1.alloc (.cells (bytesA (fbytes v)) 24) = W1 at *
  generalize w1.heap.size = g7 at *
  have hsl7 := slice32 g7
  have hsl0 := slice32 w.heap.size
  have hsl1 := slice32 (w.heap.size + 1)
  have hsl2 := slice32 (w.heap.size + 2)
  have R0 : Hid (∀ V, Below W1.heap.size W1 V → Reads V V.heap.size 1 (some ⟨w.heap.size, 0, none⟩) 32 (Lib.byteCells (fbytes x0))) := Lib.hid fun V hV => HRB.out V _ _ (by rw [← hca0.out]; exact X0.out.old hV)
  have R1 : Hid (∀ V, Below W1.heap.size W1 V → Reads V V.heap.size 1 (some ⟨w.heap.size + 1, 0, none⟩) 32 (Lib.byteCells (fbytes x1))) := Lib.hid fun V hV => HRB.out V _ _ (by rw [← hca1.out]; exact X1.out.old hV)
  have R2 : Hid (∀ V, Below W1.heap.size W1 V → Reads V V.heap.size 1 (some ⟨w.heap.size + 2, 0, none⟩) 32 (Lib.byteCells (fbytes x2))) := Lib.hid fun V hV => HRB.out V _ _ (by rw [← hca2.out]; exact X2.out.old hV)
  have HT : Hid (decide (fbytes v = fbytes v) = true) := Lib.hid (by simp)
  clear hz0
  (try simp only [Act.put, List.setIfInBounds_toArray, List.set_cons_zero, List.set_cons_succ])
  refine wp_region_held_drew (S := fun V => Below W1.heap.size W1 V) (by kernel_rfl) (Below.refl _ _).drew (fun hHeld => ?_)
  have HBW1 := Lib.hid ((Below.refl W1.heap.size W1).drew)
  generalize W1.drew = VW1 at *
  refine' wpAnyH_take (i := 0) (oi := _) (v := _) ?hit28 ?hst28 ?hft28 ?hrt28 ?hQt28 ?hyt28 ?hSt28 ?_
  case hit28 => (simp only [List.getElem?_toArray, List.getElem?_cons_succ, List.getElem?_cons_zero]; rfl)
  case hst28 => kernel_rfl
  case hft28 => kernel_rfl
  case hrt28 => kernel_rfl
  case hQt28 => exact fun _ _ _ h => h
  case hSt28 => assumption
  case hyt28 =>
    refine Or.inl ⟨by rfl, ?_⟩
    intro w hSw
    (try dsimp only at hSw)
    go_simp
    all_goals (with_reducible rfl)
  (try simp only [Act.put, List.setIfInBounds_toArray, List.set_cons_zero, List.set_cons_succ])
  refine' wpAnyH_take (i := 1) (oi := _) (v := .string ⟨(fbytes v).toArray⟩) ?hit29 ?hst29 ?hft29 ?hrt29 ?hQt29 ?hyt29 ?hSt29 ?_
  case hit29 => (simp only [List.getElem?_toArray, List.getElem?_cons_succ, List.getElem?_cons_zero]; rfl)
  case hst29 => kernel_rfl
  case hft29 => kernel_rfl
  case hrt29 => kernel_rfl
  case hQt29 => exact fun _ _ _ h => h
  case hSt29 => assumption
  case hyt29 =>
    refine Or.inl ⟨by rfl, ?_⟩
    intro W hS
    exact quiet_back (.tmp 12) (some ⟨g7, 0, none⟩) 32 32 _ (fbytes v) rfl (HRB.out W _ _ (eS.out.old hS)) rfl
  (try simp only [Act.put, List.setIfInBounds_toArray, List.set_cons_zero, List.set_cons_succ])
  refine' wpAnyH_take (i := 2) (oi := _) (v := _) ?hit30 ?hst30 ?hft30 ?hrt30 ?hQt30 ?hyt30 ?hSt30 ?_
  case hit30 => (simp only [List.getElem?_toArray, List.getElem?_cons_succ, List.getElem?_cons_zero]; rfl)
  case hst30 => kernel_rfl
  case hft30 => kernel_rfl
  case hrt30 => kernel_rfl
  case hQt30 => exact fun _ _ _ h => h
  case hSt30 => assumption
  case hyt30 =>
    refine Or.inl ⟨by rfl, ?_⟩
    intro w hSw
    (try dsimp only at hSw)
    go_simp
    all_goals (with_reducible rfl)
  (try simp only [Act.put, List.setIfInBounds_toArray, List.set_cons_zero, List.set_cons_succ])
  refine' wpAnyH_take (i := 3) (oi := _) (v := _) ?hit31 ?hst31 ?hft31 ?hrt31 ?hQt31 ?hyt31 ?hSt31 ?_
  case hit31 => (simp only [List.getElem?_toArray, List.getElem?_cons_succ, List.getElem?_cons_zero]; rfl)
  case hst31 => kernel_rfl
  case hft31 => kernel_rfl
  case hrt31 => kernel_rfl
  case hQt31 => exact fun _ _ _ h => h
  case hSt31 => assumption
  case hyt31 =>
    refine Or.inl ⟨by rfl, ?_⟩
    intro w hSw
    (try dsimp only at hSw)
    go_simp
    all_goals (with_reducible rfl)
  (try simp only [Act.put, List.setIfInBounds_toArray, List.set_cons_zero, List.set_cons_succ])
  refine' wpAnyH_take (i := 4) (oi := _) (v := _) ?hit32 ?hst32 ?hft32 ?hrt32 ?hQt32 ?hyt32 ?hSt32 ?_
  case hit32 => (simp only [List.getElem?_toArray, List.getElem?_cons_succ, List.getElem?_cons_zero]; rfl)
  case hst32 => kernel_rfl
  case hft32 => kernel_rfl
  case hrt32 => kernel_rfl
  case hQt32 => exact fun _ _ _ h => h
  case hSt32 => assumption
  case hyt32 =>
    refine Or.inl ⟨by rfl, ?_⟩
    intro w hSw
    (try dsimp only at hSw)
    go_simp
    all_goals (with_reducible rfl)
  (try simp only [Act.put, List.setIfInBounds_toArray, List.set_cons_zero, List.set_cons_succ])
  refine wpAnyH_ready (rs := [5]) (by kernel_rfl) (by simp) ?_
  refine' (AllReadyH.cons (o := _) ?hir33_5 (fun K hK => ?br33_5) AllReadyH.nil)
  case hir33_5 => (simp only [List.getElem?_toArray, List.getElem?_cons_succ, List.getElem?_cons_zero]; rfl)
  case br33_5 =>
    go_simp
    refine (CF.out _ _ _ _ (R0.out _ HBW1.out) (R1.out _ HBW1.out) (R2.out _ HBW1.out)).mono ?_
    rintro e w34 ⟨r34, rfl, ho34, hb34⟩
    obtain ⟨A34, c34, rfl, _⟩ := own_slice ho34
    have HRf := Lib.hid (Reads.of_own ho34)
    have H34 := Lib.hid (HBW1.out.trans (hb34.mono HBW1.out.size))
    clear ho34 hb34
    go_wp2_with fail
    refine hK.out _ _ ?_ (fun hHeld => ?_)
    exact H34.out
    clear hK K
    (try simp only [Act.put, List.setIfInBounds_toArray, List.set_cons_zero, List.set_cons_succ])
    refine wpAnyH_ready (rs := [6]) (by kernel_rfl) (by simp) ?_
    refine' (AllReadyH.cons (o := _) ?hir35_6 (fun K hK => ?br35_6) AllReadyH.nil)
    case hir35_6 => (simp only [List.getElem?_toArray, List.getElem?_cons_succ, List.getElem?_cons_zero]; rfl)
    case br35_6 =>
      refine step_of_wp rfl ?_
      refine wp_back (.tmp 17) _ 32 _ _ (fbytes v) rfl HRf.out rfl ?_
      refine hK.out _ _ ?_ (fun hHeld => ?_)
      exact H34.out
      clear hK K
      (try simp only [Act.put, List.setIfInBounds_toArray, List.set_cons_zero, List.set_cons_succ])
      refine' wpAnyH_take (i := 7) (oi := _) (v := _) ?hit37 ?hst37 ?hft37 ?hrt37 ?hQt37 ?hyt37 ?hSt37 ?_
      case hit37 => (simp only [List.getElem?_toArray, List.getElem?_cons_succ, List.getElem?_cons_zero]; rfl)
      case hst37 => kernel_rfl
      case hft37 => kernel_rfl
      case hrt37 => kernel_rfl
      case hQt37 => exact fun _ _ _ h => h
      case hSt37 => assumption
      case hyt37 =>
        refine Or.inl ⟨by rfl, ?_⟩
        intro w hSw
        (try dsimp only at hSw)
        go_simp
        all_goals (with_reducible rfl)
      (try simp only [Act.put, List.setIfInBounds_toArray, List.set_cons_zero, List.set_cons_succ])
      refine' wpAnyH_take (i := 8) (oi := _) (v := _) ?hit38 ?hst38 ?hft38 ?hrt38 ?hQt38 ?hyt38 ?hSt38 ?_
      case hit38 => (simp only [List.getElem?_toArray, List.getElem?_cons_succ, List.getElem?_cons_zero]; rfl)
      case hst38 => kernel_rfl
      case hft38 => kernel_rfl
      case hrt38 => kernel_rfl
      case hQt38 => exact fun _ _ _ h => h
      case hSt38 => assumption
      case hyt38 =>
        refine Or.inl ⟨by rfl, ?_⟩
        intro w hSw
        (try dsimp only at hSw)
        go_simp
        all_goals (with_reducible rfl)
      (try simp only [Act.put, List.setIfInBounds_toArray, List.set_cons_zero, List.set_cons_succ])
      refine' wpAnyH_take (i := 9) (oi := _) (v := .agg ca1) ?hit39 ?hst39 ?hft39 ?hrt39 ?hQt39 ?hyt39 ?hSt39 ?_
      case hit39 => (simp only [List.getElem?_toArray, List.getElem?_cons_succ, List.getElem?_cons_zero]; rfl)
      case hst39 => kernel_rfl
      case hft39 => kernel_rfl
      case hrt39 => kernel_rfl
      case hQt39 => exact fun _ _ _ h => h
      case hSt39 => assumption
      case hyt39 =>
        refine Or.inl ⟨by rfl, ?_⟩
        intro W hS
        exact quiet_load_row 24 (.tmp 4) _ rfl 24 ca1 _ (X1.out.old hS) Tryd.underlying24 rfl hia1.out rfl
      (try simp only [Act.put, List.setIfInBounds_toArray, List.set_cons_zero, List.set_cons_succ])
      refine' wpAnyH_take (i := 10) (oi := _) (v := .agg ca0) ?hit40 ?hst40 ?hft40 ?hrt40 ?hQt40 ?hyt40 ?hSt40 ?_
      case hit40 => (simp only [List.getElem?_toArray, List.getElem?_cons_succ, List.getElem?_cons_zero]; rfl)
      case hst40 => kernel_rfl
      case hft40 => kernel_rfl
      case hrt40 => kernel_rfl
      case hQt40 => exact fun _ _ _ h => h
      case hSt40 => assumption
      case hyt40 =>
        refine Or.inl ⟨by rfl, ?_⟩
        intro W hS
        exact quiet_load_row 24 (.tmp 3) _ rfl 24 ca0 _ (X0.out.old hS) Tryd.underlying24 rfl hia0.out rfl
      (try simp only [Act.put, List.setIfInBounds_toArray, List.set_cons_zero, List.set_cons_succ])
      refine' wpAnyH_take (i := 11) (oi := _) (v := .agg ca2) ?hit41 ?hst41 ?hft41 ?hrt41 ?hQt41 ?hyt41 ?hSt41 ?_
      case hit41 => (simp only [List.getElem?_toArray, List.getElem?_cons_succ, List.getElem?_cons_zero]; rfl)
      case hst41 => kernel_rfl
      case hft41 => kernel_rfl
      case hrt41 => kernel_rfl
      case hQt41 => exact fun _ _ _ h => h
      case hSt41 => assumption
      case hyt41 =>
        refine Or.inl ⟨by rfl, ?_⟩
        intro W hS
        exact quiet_load_row 24 (.tmp 5) _ rfl 24 ca2 _ (X2.out.old hS) Tryd.underlying24 rfl hia2.out rfl
      (try simp only [Act.put, List.setIfInBounds_toArray, List.set_cons_zero, List.set_cons_succ])
      refine' wpAnyH_take (i := 13) (oi := _) (v := .agg (bytesA (fbytes v))) ?hit42 ?hst42 ?hft42 ?hrt42 ?hQt42 ?hyt42 ?hSt42 ?_
      case hit42 => (simp only [List.getElem?_toArray, List.getElem?_cons_succ, List.getElem?_cons_zero]; rfl)
      case hst42 => kernel_rfl
      case hft42 => kernel_rfl
      case hrt42 => kernel_rfl
      case hQt42 => exact fun _ _ _ h => h
      case hSt42 => assumption
      case hyt42 =>
        refine Or.inl ⟨by rfl, ?_⟩
        intro W hS
        exact quiet_load_row 24 (.tmp 7) _ rfl 24 (bytesA (fbytes v)) _ (eS.out.old hS) Tryd.underlying24 rfl okv.out.1 rfl
      (try simp only [Act.put, List.setIfInBounds_toArray, List.set_cons_zero, List.set_cons_succ])
      refine wpAnyH_ready (rs := [12]) (by kernel_rfl) (by simp) ?_
      refine' (AllReadyH.cons (o := _) ?hir43_12 (fun K hK => ?br43_12) AllReadyH.nil)
      case hir43_12 => (simp only [List.getElem?_toArray, List.getElem?_cons_succ, List.getElem?_cons_zero]; rfl)
      case br43_12 =>
        go_simp
        refine (C2.out _ (H.old HQ1.out H34.out)).mono ?_
        rintro e w44 ⟨rfl, hb44⟩
        have H44 := Lib.hid (H34.out.trans (hb44.mono H34.out.size))
        clear hb44
        go_wp2_with fail
        refine hK.out _ _ ?_ (fun hHeld => ?_)
        exact H44.out
        clear hK K
        (try simp only [Act.put, List.setIfInBounds_toArray, List.set_cons_zero, List.set_cons_succ])
        refine' wpAnyH_take (i := 14) (oi := _) (v := .bool true) ?hit45 ?hst45 ?hft45 ?hrt45 ?hQt45 ?hyt45 ?hSt45 ?_
        case hit45 => (simp only [List.getElem?_toArray, List.getElem?_cons_succ, List.getElem?_cons_zero]; rfl)
        case hst45 => kernel_rfl
        case hft45 => kernel_rfl
        case hrt45 => kernel_rfl
        case hQt45 => exact fun _ _ _ h => h
        case hSt45 => assumption
        case hyt45 =>
          refine Or.inl ⟨by rfl, ?_⟩
          intro W hS
          exact quiet_eqb_bytes W (.tmp 24) (.tmp 25) _ (fbytes v) (fbytes v) true (decide_eq_true rfl) (fbytes_length _) (fbytes_length _) rfl rfl rfl
        (try simp only [Act.put, List.setIfInBounds_toArray, List.set_cons_zero, List.set_cons_succ])
        refine' wpAnyH_take (i := 15) (oi := _) (v := _) ?hit46 ?hst46 ?hft46 ?hrt46 ?hQt46 ?hyt46 ?hSt46 ?_
        case hit46 => (simp only [List.getElem?_toArray, List.getElem?_cons_succ, List.getElem?_cons_zero]; rfl)
        case hst46 => kernel_rfl
        case hft46 => kernel_rfl
        case hrt46 => kernel_rfl
        case hQt46 => exact fun _ _ _ h => h
        case hSt46 => assumption
        case hyt46 =>
          refine Or.inl ⟨by rfl, ?_⟩
          intro w hSw
          (try dsimp only at hSw)
          go_simp
          all_goals (with_reducible rfl)
        (try simp only [Act.put, List.setIfInBounds_toArray, List.set_cons_zero, List.set_cons_succ])
        refine' wpAnyH_take (i := 16) (oi := _) (v := _) ?hit47 ?hst47 ?hft47 ?hrt47 ?hQt47 ?hyt47 ?hSt47 ?_
        case hit47 => (simp only [List.getElem?_toArray, List.getElem?_cons_succ, List.getElem?_cons_zero]; rfl)
        case hst47 => kernel_rfl
        case hft47 => kernel_rfl
        case hrt47 => kernel_rfl
        case hQt47 => exact fun _ _ _ h => h
        case hSt47 => assumption
        case hyt47 =>
          refine Or.inl ⟨by rfl, ?_⟩
          intro w hSw
          (try dsimp only at hSw)
          go_simp
          all_goals (with_reducible rfl)
        (try simp only [Act.put, List.setIfInBounds_toArray, List.set_cons_zero, List.set_cons_succ])
        refine wpAnyH_ready (rs := [17]) (by kernel_rfl) (by simp) ?_
        refine' (AllReadyH.cons (o := _) ?hir48_17 (fun K hK => ?br48_17) AllReadyH.nil)
        case hir48_17 => (simp only [List.getElem?_toArray, List.getElem?_cons_succ, List.getElem?_cons_zero]; rfl)
        case br48_17 =>
          go_simp
          refine (awake6_any H _ (H.old HQ1.out H44.out)).mono ?_
          rintro e w49 ⟨rfl, hb49⟩
          have H49 := Lib.hid (H44.out.trans (hb49.mono H44.out.size))
          clear hb49
          go_wp2_with fail
          refine hK.out _ _ ?_ (fun hHeld => ?_)
          exact H49.out
          clear hK K
          (try simp only [Act.put, List.setIfInBounds_toArray, List.set_cons_zero, List.set_cons_succ])
          refine' wpAnyH_take (i := 18) (oi := _) (v := _) ?hit50 ?hst50 ?hft50 ?hrt50 ?hQt50 ?hyt50 ?hSt50 ?_
          case hit50 => (simp only [List.getElem?_toArray, List.getElem?_cons_succ, List.getElem?_cons_zero]; rfl)
          case hst50 => kernel_rfl
          case hft50 => kernel_rfl
          case hrt50 => kernel_rfl
          case hQt50 => exact fun _ _ _ h => h
          case hSt50 => assumption
          case hyt50 =>
            refine Or.inl ⟨by rfl, ?_⟩
            intro w hSw
            (try dsimp only at hSw)
            go_simp
            all_goals (with_reducible rfl)
          (try simp only [Act.put, List.setIfInBounds_toArray, List.set_cons_zero, List.set_cons_succ])
          refine' wpAnyH_take (i := 19) (oi := _) (v := _) ?hit51 ?hst51 ?hft51 ?hrt51 ?hQt51 ?hyt51 ?hSt51 ?_
          case hit51 => (simp only [List.getElem?_toArray, List.getElem?_cons_succ, List.getElem?_cons_zero]; rfl)
          case hst51 => kernel_rfl
          case hft51 => kernel_rfl
          case hrt51 => kernel_rfl
          case hQt51 => exact fun _ _ _ h => h
          case hSt51 => assumption
          case hyt51 =>
            refine Or.inl ⟨by rfl, ?_⟩
            intro w hSw
            (try dsimp only at hSw)
            go_simp
            all_goals (with_reducible rfl)
          (try simp only [Act.put, List.setIfInBounds_toArray, List.set_cons_zero, List.set_cons_succ])
          refine wpAnyH_done (by kernel_rfl) ?_ _
          have hbe := Lib.hid (HB.out.trans (H49.out.mono HB.out.size))
          clear hHeld
          go_wp2_with fail
          go_ret
          exact ⟨rfl, hbe.out⟩
end Go.Proofs.YtebnkbeejkopaaaDoor
