/-
  The walk of the law PointParts. Conditions: the program's points, and numbers modulo L, are as they must be.
-/
import Derived.Test.YtjiadbaaggifpaaDoorM5
import Derived.Test.YtjiadbaaggifpaaDoorScaLastZ
import Derived.Deep.DeepCutAuto
import Derived.Deep.CutBlock
set_option linter.unusedVariables false
set_option linter.unusedSimpArgs false
namespace Go.Proofs.YtjiadbaaggifpaaDoor
open Go Go.Proofs Go.RowKit F5

theorem mayB_rest7 (x : Nat) : mayB (fbytes (x % LL)) = true := by
  have hl : x % LL < LL := Nat.mod_lt _ LL_pos
  exact decide_eq_true ⟨fbytes_length _, by rw [bval_fbytes (Nat.lt_trans hl (by decide))]; exact hl⟩
theorem parts1 (v : Nat) : pmul v pbase = pmul (v % LL) pbase := pmul_mod base_order v
theorem parts2 (x y : Nat) : pmul ((1 * x + y) % LL) pbase = padd (pmul x pbase) (pmul y pbase) := by
  rw [Nat.one_mul, ← pmul_mod base_order, pmul_add]
theorem one_bytes7 : fbytes 1 = 1 :: List.replicate 31 0 := by decide +kernel

set_option maxHeartbeats 32000000 in
set_option maxRecDepth 100000 in
theorem pparts_walk {Q : World → Prop} {PP : Pt → Array Value → Prop} {zv : Array Value} (H : PtOk Q PP zv) (S : ScaOk Q) (v0 v1 : Nat) (hv0 : v0 < 2 ^ 256) (hv1 : v1 < 2 ^ 256) (w : World) (hQ : Q w) :
    Calls Tryd.prog 7 #[.agg (bytesA (fbytes v0)), .agg (bytesA (fbytes v1))] w fun e w' => e = .returned (.bool true) ∧ Below w.heap.size w w' := by
  have HQ := Lib.hid hQ
  obtain ⟨z, hz⟩ : ∃ z, Hid (z = bytesA (List.replicate 32 0)) := ⟨_, Lib.hid rfl⟩
  have hz0 : ∀ W, (zeroValue 40).run Tryd.prog W = .ok (.agg z) W := by
    rw [hz.out]; exact (zero_of_info (n := 32) (by kernel_rfl)).1
  have hzp0 : ∀ W : World, (zeroValue 30).run Tryd.prog W = .ok (.agg zv) W := H.zero_run
  have rest_256 : ∀ a : Nat, a % LL < 2 ^ 256 := fun a => Nat.lt_trans (Nat.mod_lt _ LL_pos) (by decide)
  obtain ⟨x, hx⟩ := named (v0 % LL)
  obtain ⟨y, hy⟩ := named (v1 % LL)
  obtain ⟨s, hs⟩ := named ((1 * x + y) % LL)
  have hx2 : x < 2 ^ 256 := by rw [hx.out]; exact rest_256 _
  have hy2 : y < 2 ^ 256 := by rw [hy.out]; exact rest_256 _
  have hs2 : s < 2 ^ 256 := by rw [hs.out]; exact rest_256 _
  have P1 : Hid (pmul v0 pbase = pmul x pbase) := by rw [hx.out]; exact Lib.hid (parts1 v0)
  have P2 : Hid (pmul s pbase = padd (pmul x pbase) (pmul y pbase)) := by rw [hs.out]; exact Lib.hid (parts2 x y)
  have CR0 : Hid (∀ g V, Reads V V.heap.size 1 (some ⟨g, 0, none⟩) 32 (Lib.byteCells (fbytes v0)) → Q V → Calls Tryd.prog 25 #[.slice (some ⟨g, 0, none⟩) 32 32] V fun e w' => e = .returned (.agg (bytesA (fbytes x))) ∧ Below V.heap.size V w') := Lib.hid fun g V hr hq => by
    have := S.reduce (some ⟨g, 0, none⟩) 32 32 _ V (by omega) (by omega) (by unfold maxLen; omega) hr hq
    rwa [bval_fbytes hv0, ← hx.out] at this
  have CR1 : Hid (∀ g V, Reads V V.heap.size 1 (some ⟨g, 0, none⟩) 32 (Lib.byteCells (fbytes v1)) → Q V → Calls Tryd.prog 25 #[.slice (some ⟨g, 0, none⟩) 32 32] V fun e w' => e = .returned (.agg (bytesA (fbytes y))) ∧ Below V.heap.size V w') := Lib.hid fun g V hr hq => by
    have := S.reduce (some ⟨g, 0, none⟩) 32 32 _ V (by omega) (by omega) (by unfold maxLen; omega) hr hq
    rwa [bval_fbytes hv1, ← hy.out] at this
  have CM : Hid (∀ g V, Reads V V.heap.size 1 (some ⟨g, 0, none⟩) 32 (Lib.byteCells (fbytes x)) → Calls Tryd.prog 26 #[.slice (some ⟨g, 0, none⟩) 32 32] V fun e w' => e = .returned (.bool true) ∧ Below V.heap.size V w') := Lib.hid fun g V hr => by
    have := may_any (some ⟨g, 0, none⟩) 32 32 _ V (by omega) hr
    rwa [hx.out, mayB_rest7] at this
  have CMA : Hid (∀ V, Q V → Calls Tryd.prog 27 #[.agg (bytesA (fbytes 1)), .agg (bytesA (fbytes x)), .agg (bytesA (fbytes y))] V fun e w' => e = .returned (.agg (bytesA (fbytes s))) ∧ Below V.heap.size V w') := Lib.hid fun V hq => by
    have := S.muladd 1 x y V (by decide) hx2 hy2 hq
    rwa [← hs.out] at this
  have CT0 : Hid (∀ {p : Pt} {a : Array Value} (V : World), PP p a → Q V → Calls Tryd.prog 21 #[.agg a, .agg (bytesA (fbytes v0))] V fun e w' => ∃ c, e = .returned (.agg c) ∧ PP (pmul v0 p) c ∧ Below V.heap.size V w') := Lib.hid fun V h hq => H.times v0 V hv0 h hq
  have CTx : Hid (∀ {p : Pt} {a : Array Value} (V : World), PP p a → Q V → Calls Tryd.prog 21 #[.agg a, .agg (bytesA (fbytes x))] V fun e w' => ∃ c, e = .returned (.agg c) ∧ PP (pmul x p) c ∧ Below V.heap.size V w') := Lib.hid fun V h hq => H.times x V hx2 h hq
  have CTy : Hid (∀ {p : Pt} {a : Array Value} (V : World), PP p a → Q V → Calls Tryd.prog 21 #[.agg a, .agg (bytesA (fbytes y))] V fun e w' => ∃ c, e = .returned (.agg c) ∧ PP (pmul y p) c ∧ Below V.heap.size V w') := Lib.hid fun V h hq => H.times y V hy2 h hq
  have CTs : Hid (∀ {p : Pt} {a : Array Value} (V : World), PP p a → Q V → Calls Tryd.prog 21 #[.agg a, .agg (bytesA (fbytes s))] V fun e w' => ∃ c, e = .returned (.agg c) ∧ PP (pmul s p) c ∧ Below V.heap.size V w') := Lib.hid fun V h hq => H.times s V hs2 h hq
  have HRB : Hid (∀ (V : World) (g x : Nat), Blk V g 40 (bytesA (fbytes x)) → Reads V V.heap.size 1 (some ⟨g, 0, none⟩) 32 (Lib.byteCells (fbytes x))) := Lib.hid fun V g x hb => by
    have := reads_blk hb
    rwa [fbytes_length] at this
  have okx : Hid ((Tryd.prog.info? 40).map (·.size) = some (bytesA (fbytes x)).size ∧ (bytesA (fbytes x)).all (·.oneCell') = true ∧ z.size = (bytesA (fbytes x)).size) := Lib.hid ⟨fbytes_info _, bytesA_one _, by rw [hz.out, bytesA_size, bytesA_size, fbytes_length]; rfl⟩
  have oky : Hid ((Tryd.prog.info? 40).map (·.size) = some (bytesA (fbytes y)).size ∧ (bytesA (fbytes y)).all (·.oneCell') = true ∧ z.size = (bytesA (fbytes y)).size) := Lib.hid ⟨fbytes_info _, bytesA_one _, by rw [hz.out, bytesA_size, bytesA_size, fbytes_length]; rfl⟩
  have oko : Hid ((Tryd.prog.info? 40).map (·.size) = some (bytesA (fbytes 1)).size ∧ (bytesA (fbytes 1)).all (·.oneCell') = true ∧ z.size = (bytesA (fbytes 1)).size) := Lib.hid ⟨fbytes_info _, bytesA_one _, by rw [hz.out, bytesA_size, bytesA_size, fbytes_length]; rfl⟩
  obtain ⟨ca0, hca0⟩ : ∃ x, Hid (x = bytesA (fbytes v0)) := ⟨_, Lib.hid rfl⟩
  have hia0 : Hid ((Tryd.prog.info? 40).map (·.size) = some ca0.size) := by rw [hca0.out]; exact Lib.hid (fbytes_info v0)
  obtain ⟨ca1, hca1⟩ : ∃ x, Hid (x = bytesA (fbytes v1)) := ⟨_, Lib.hid rfl⟩
  have hia1 : Hid ((Tryd.prog.info? 40).map (·.size) = some ca1.size) := by rw [hca1.out]; exact Lib.hid (fbytes_info v1)
  obtain ⟨co, hco⟩ : ∃ x, Hid (x = bytesA (fbytes 1)) := ⟨_, Lib.hid rfl⟩
  rw [← hca0.out] at CT0
  rw [← hco.out] at CMA oko
  have ho1 : Hid (bytesA (1 :: List.replicate 31 0) = co) := by rw [hco.out, one_bytes7]; exact Lib.hid rfl
  rw [← hca0.out, ← hca1.out]
  obtain ⟨x0, x1, xb⟩ := (show Blk ((w.alloc (.cells ca0 40)).alloc (.cells ca1 40)) (w.heap.size) 40 ca0 ∧ Blk ((w.alloc (.cells ca0 40)).alloc (.cells ca1 40)) (w.heap.size + 1) 40 ca1 ∧ Below w.heap.size w ((w.alloc (.cells ca0 40)).alloc (.cells ca1 40)) by
    have h0 := (Blk.new w 40 ca0).alloc (.cells ca1 40)
    have h1 := Blk.new (w.alloc (.cells ca0 40)) 40 ca1
    rw [show (w.alloc (.cells ca0 40)).heap.size = w.heap.size + 1 by simp] at h1
    exact ⟨h0, h1, (((Below.refl w.heap.size w).alloc (Nat.le_refl _) _).alloc (by simp) _)⟩)
  clear hQ hz hx hy hs rest_256 hx2 hy2 hs2 hv0 hv1
  go_enter Tryd.func7, Tryd.ntmps7
  go_upto_region 1 with fail
  generalize (w.alloc (.cells ca0 40)).alloc (.cells ca1 40) = W at *
  have X0 := Lib.hid x0
  have X1 := Lib.hid x1
  have HB := Lib.hid xb
  clear x0 x1 xb
  go_upto_region 2 with fail
  refine (H.base _ (H.old HQ.out HB.out)).mono ?_
  rintro e w3 ⟨cb, rfl, hpb, hbb⟩
  have OB := Lib.hid (H.ok hpb)
  have PB := Lib.hid hpb
  have hbc := hbb.trans (((Below.refl w3.heap.size w3).alloc (Nat.le_refl _) (.cells cb 30)).mono hbb.size)
  have X0 := Lib.hid (X0.out.old hbc)
  have X1 := Lib.hid (X1.out.old hbc)
  have E5 := Lib.hid (Blk.new w3 30 cb)
  have HB := Lib.hid (HB.out.trans (hbc.mono HB.out.size))
  clear hpb hbb hbc
  go_upto_region 2 with (refine wpList_store_row rfl 30 (.tmp 5) (.tmp 9) rfl w3.heap.size cb rfl rfl 30 _ (heap_alloc_new w3 _) OB.out.1 OB.out.2.2 OB.out.2.1 ?_; rw [setRow_alloc1])
  generalize w3.alloc (.cells cb 30) = Wa at *
  generalize w3.heap.size = g5 at *
  go_upto_region 3 with (first | (refine wpList_build_to rfl 40 #[(0, .const (.int .u8 1))] rfl [(0, .int .u8 1)] (by simp [Act.eval, Act.put]) (bytesA (1 :: List.replicate 31 0)) built_one ?_) | (refine wpList_store_row rfl 40 (.tmp 6) (.tmp 10) rfl Wa.heap.size (bytesA (1 :: List.replicate 31 0)) rfl rfl 40 z (heap_alloc_new Wa _) (by rw [ho1.out]; exact oko.out.1) (by rw [ho1.out]; exact oko.out.2.2) (by rw [ho1.out]; exact oko.out.2.1) ?_; rw [setRow_alloc1, ho1.out]))
  have hbc := (Below.refl Wa.heap.size Wa).alloc (Nat.le_refl _) (.cells co 40)
  have X0 := Lib.hid (X0.out.old hbc)
  have X1 := Lib.hid (X1.out.old hbc)
  have E5 := Lib.hid (E5.out.old hbc)
  have X6 := Lib.hid (Blk.new Wa 40 co)
  have HB := Lib.hid (HB.out.trans (hbc.mono HB.out.size))
  clear hbc
  generalize Wa.alloc (.cells co 40) = W3 at *
  generalize Wa.heap.size = g6 at *
  have hsl0 := slice32 w.heap.size
  have hsl1 := slice32 (w.heap.size + 1)
  have R0 : Hid (∀ V, Below W3.heap.size W3 V → Reads V V.heap.size 1 (some ⟨w.heap.size, 0, none⟩) 32 (Lib.byteCells (fbytes v0))) := Lib.hid fun V hV => HRB.out V _ _ (by rw [← hca0.out]; exact X0.out.old hV)
  have R1 : Hid (∀ V, Below W3.heap.size W3 V → Reads V V.heap.size 1 (some ⟨w.heap.size + 1, 0, none⟩) 32 (Lib.byteCells (fbytes v1))) := Lib.hid fun V hV => HRB.out V _ _ (by rw [← hca1.out]; exact X1.out.old hV)
  (try simp only [Act.put, List.setIfInBounds_toArray, List.set_cons_zero, List.set_cons_succ])
  go_cut [7, 8] (fun p7 p8 wx => ∃ g7 g8, p7 = .pointer (some ⟨g7, 0, none⟩) ∧ p8 = .pointer (some ⟨g8, 0, none⟩) ∧ Blk wx g7 40 (bytesA (fbytes x)) ∧ Blk wx g8 40 (bytesA (fbytes y)) ∧ Below W3.heap.size W3 wx)
  case first =>
    (try simp only [Act.put, List.setIfInBounds_toArray, List.set_cons_zero, List.set_cons_succ])
    refine wp_region_held_drew (S := fun V => Below W3.heap.size W3 V) (by kernel_rfl) (Below.refl _ _).drew (fun hHeld => ?_)
    have HBW3 := Lib.hid ((Below.refl W3.heap.size W3).drew)
    generalize W3.drew = V0 at *
    refine' wpAnyH_take (i := 0) (oi := _) (v := _) ?hit1 ?hst1 ?hft1 ?hrt1 ?hQt1 ?hyt1 ?hSt1 ?_
    case hit1 => (simp only [List.getElem?_toArray, List.getElem?_cons_succ, List.getElem?_cons_zero]; rfl)
    case hst1 => kernel_rfl
    case hft1 => kernel_rfl
    case hrt1 => kernel_rfl
    case hQt1 => exact fun _ _ _ h => h
    case hSt1 => assumption
    case hyt1 =>
      refine Or.inl ⟨by rfl, ?_⟩
      intro w hSw
      (try dsimp only at hSw)
      go_simp
      all_goals (with_reducible rfl)
    (try simp only [Act.put, List.setIfInBounds_toArray, List.set_cons_zero, List.set_cons_succ])
    refine' wpAnyH_take (i := 2) (oi := _) (v := _) ?hit2 ?hst2 ?hft2 ?hrt2 ?hQt2 ?hyt2 ?hSt2 ?_
    case hit2 => (simp only [List.getElem?_toArray, List.getElem?_cons_succ, List.getElem?_cons_zero]; rfl)
    case hst2 => kernel_rfl
    case hft2 => kernel_rfl
    case hrt2 => kernel_rfl
    case hQt2 => exact fun _ _ _ h => h
    case hSt2 => assumption
    case hyt2 =>
      refine Or.inl ⟨by rfl, ?_⟩
      intro w hSw
      (try dsimp only at hSw)
      go_simp
      all_goals (with_reducible rfl)
    (try simp only [Act.put, List.setIfInBounds_toArray, List.set_cons_zero, List.set_cons_succ])
    refine wpAnyH_ready (rs := [1, 4, 5]) (by kernel_rfl) (by simp) ?_
    refine' (AllReadyH.cons (o := _) ?hir3_1 (fun K hK => ?br3_1) (AllReadyH.cons (o := _) ?hir3_4 (fun K hK => ?br3_4) (AllReadyH.cons (o := _) ?hir3_5 (fun K hK => ?br3_5) AllReadyH.nil)))
    case hir3_1 => (simp only [List.getElem?_toArray, List.getElem?_cons_succ, List.getElem?_cons_zero]; rfl)
    case hir3_4 => (simp only [List.getElem?_toArray, List.getElem?_cons_succ, List.getElem?_cons_zero]; rfl)
    case hir3_5 => (simp only [List.getElem?_toArray, List.getElem?_cons_succ, List.getElem?_cons_zero]; rfl)
    case br3_1 =>
      go_simp
      refine (CR0.out _ _ (R0.out _ HBW3.out) (H.old (H.old HQ.out HB.out) HBW3.out)).mono ?_
      rintro e w4 ⟨rfl, hb4⟩
      have H4 := Lib.hid (HBW3.out.trans (hb4.mono HBW3.out.size))
      clear hb4
      go_wp2_with fail
      refine hK.out _ _ ?_ (fun hHeld => ?_)
      exact H4.out
      clear hK K
      (try simp only [Act.put, List.setIfInBounds_toArray, List.set_cons_zero, List.set_cons_succ])
      refine wpAnyH_ready (rs := [3, 4, 5]) (by kernel_rfl) (by simp) ?_
      refine' (AllReadyH.cons (o := _) ?hir5_3 (fun K hK => ?br5_3) (AllReadyH.cons (o := _) ?hir5_4 (fun K hK => ?br5_4) (AllReadyH.cons (o := _) ?hir5_5 (fun K hK => ?br5_5) AllReadyH.nil)))
      case hir5_3 => (simp only [List.getElem?_toArray, List.getElem?_cons_succ, List.getElem?_cons_zero]; rfl)
      case hir5_4 => (simp only [List.getElem?_toArray, List.getElem?_cons_succ, List.getElem?_cons_zero]; rfl)
      case hir5_5 => (simp only [List.getElem?_toArray, List.getElem?_cons_succ, List.getElem?_cons_zero]; rfl)
      case br5_3 =>
        go_simp
        refine (CR1.out _ _ (R1.out _ H4.out) (H.old (H.old HQ.out HB.out) H4.out)).mono ?_
        rintro e w6 ⟨rfl, hb6⟩
        have H6 := Lib.hid (H4.out.trans (hb6.mono H4.out.size))
        clear hb6
        go_wp2_with fail
        refine hK.out _ _ ?_ (fun hHeld => ?_)
        exact H6.out
        clear hK K
        (try simp only [Act.put, List.setIfInBounds_toArray, List.set_cons_zero, List.set_cons_succ])
        refine wpAnyH_ready (rs := [4, 5]) (by kernel_rfl) (by simp) ?_
        refine' (AllReadyH.cons (o := _) ?hir7_4 (fun K hK => ?br7_4) (AllReadyH.cons (o := _) ?hir7_5 (fun K hK => ?br7_5) AllReadyH.nil))
        case hir7_4 => (simp only [List.getElem?_toArray, List.getElem?_cons_succ, List.getElem?_cons_zero]; rfl)
        case hir7_5 => (simp only [List.getElem?_toArray, List.getElem?_cons_succ, List.getElem?_cons_zero]; rfl)
        case br7_4 =>
          go_simp
          refine hK.out _ _ ?_ (fun hHeld => ?_)
          · exact (H6.out.alloc H6.out.size _)
          have H8 := Lib.hid (H6.out.alloc H6.out.size (.cells z 40))
          have N7_8 := Lib.hid (alloc_new H6.out 40 z)
          have G7_8 := Lib.hid H6.out.size
          clear hK K
          (try simp only [Act.put, List.setIfInBounds_toArray, List.set_cons_zero, List.set_cons_succ])
          refine wpAnyH_ready (rs := [5]) (by kernel_rfl) (by simp) ?_
          refine' (AllReadyH.cons (o := _) ?hir9_5 (fun K hK => ?br9_5) AllReadyH.nil)
          case hir9_5 => (simp only [List.getElem?_toArray, List.getElem?_cons_succ, List.getElem?_cons_zero]; rfl)
          case br9_5 =>
            go_simp
            refine hK.out _ _ ?_ (fun hHeld => ?_)
            · exact (H8.out.alloc H8.out.size _)
            have H10 := Lib.hid (H8.out.alloc H8.out.size (.cells z 40))
            have NE10 := Lib.hid (blk_ne2 N7_8.out)
            have N7_10 := Lib.hid (N7_8.out.alloc (.cells z 40))
            have N8_10 := Lib.hid (alloc_new2 H8.out 40 z)
            have G8_10 := Lib.hid (alloc_size2 H8.out)
            clear hK K
            (try simp only [Act.put, List.setIfInBounds_toArray, List.set_cons_zero, List.set_cons_succ])
            refine wpAnyH_ready (rs := [6]) (by kernel_rfl) (by simp) ?_
            refine' (AllReadyH.cons (o := _) ?hir11_6 (fun K hK => ?br11_6) AllReadyH.nil)
            case hir11_6 => (simp only [List.getElem?_toArray, List.getElem?_cons_succ, List.getElem?_cons_zero]; rfl)
            case br11_6 =>
              refine step_of_wp rfl ?_
              refine wp_store_row 40 (.tmp 7) (.tmp 12) rfl _ (bytesA (fbytes x)) rfl rfl 40 z N7_10.out okx.out.1 okx.out.2.2 okx.out.2.1 ?_
              refine hK.out _ _ ?_ (fun hHeld => ?_)
              exact below_row H10.out G7_8.out _
              have H12 := Lib.hid (below_row H10.out G7_8.out (bytesA (fbytes x)))
              have N7_12 := Lib.hid (N7_10.out.row (bytesA (fbytes x)))
              have N8_12 := Lib.hid (N8_10.out.rowFar (g' := _) (fun e => NE10.out (by first | exact e | exact e.symm)) (bytesA (fbytes x)))
              clear hK K
              (try simp only [Act.put, List.setIfInBounds_toArray, List.set_cons_zero, List.set_cons_succ])
              refine wpAnyH_ready (rs := [7]) (by kernel_rfl) (by simp) ?_
              refine' (AllReadyH.cons (o := _) ?hir13_7 (fun K hK => ?br13_7) AllReadyH.nil)
              case hir13_7 => (simp only [List.getElem?_toArray, List.getElem?_cons_succ, List.getElem?_cons_zero]; rfl)
              case br13_7 =>
                refine step_of_wp rfl ?_
                refine wp_store_row 40 (.tmp 8) (.tmp 14) rfl _ (bytesA (fbytes y)) rfl rfl 40 z N8_12.out oky.out.1 oky.out.2.2 oky.out.2.1 ?_
                refine hK.out _ _ ?_ (fun hHeld => ?_)
                exact below_row H12.out G8_10.out _
                have H14 := Lib.hid (below_row H12.out G8_10.out (bytesA (fbytes y)))
                have N8_14 := Lib.hid (N8_12.out.row (bytesA (fbytes y)))
                have N7_14 := Lib.hid (N7_12.out.rowFar (g' := _) (fun e => NE10.out (by first | exact e | exact e.symm)) (bytesA (fbytes y)))
                clear hK K
                (try simp only [Act.put, List.setIfInBounds_toArray, List.set_cons_zero, List.set_cons_succ])
                refine wpAnyH_done (by kernel_rfl) ?_ _
                go_wp2_with fail
                go_meet
                exact ⟨_, _, rfl, rfl, N7_14.out, N8_14.out, H14.out⟩
        case br7_5 =>
          go_simp
          refine hK.out _ _ ?_ (fun hHeld => ?_)
          · exact (H6.out.alloc H6.out.size _)
          have H15 := Lib.hid (H6.out.alloc H6.out.size (.cells z 40))
          have N8_15 := Lib.hid (alloc_new H6.out 40 z)
          have G8_15 := Lib.hid H6.out.size
          clear hK K
          (try simp only [Act.put, List.setIfInBounds_toArray, List.set_cons_zero, List.set_cons_succ])
          refine wpAnyH_ready (rs := [4]) (by kernel_rfl) (by simp) ?_
          refine' (AllReadyH.cons (o := _) ?hir16_4 (fun K hK => ?br16_4) AllReadyH.nil)
          case hir16_4 => (simp only [List.getElem?_toArray, List.getElem?_cons_succ, List.getElem?_cons_zero]; rfl)
          case br16_4 =>
            go_simp
            refine hK.out _ _ ?_ (fun hHeld => ?_)
            · exact (H15.out.alloc H15.out.size _)
            have H17 := Lib.hid (H15.out.alloc H15.out.size (.cells z 40))
            have NE17 := Lib.hid (blk_ne2 N8_15.out)
            have N8_17 := Lib.hid (N8_15.out.alloc (.cells z 40))
            have N7_17 := Lib.hid (alloc_new2 H15.out 40 z)
            have G7_17 := Lib.hid (alloc_size2 H15.out)
            clear hK K
            (try simp only [Act.put, List.setIfInBounds_toArray, List.set_cons_zero, List.set_cons_succ])
            refine wpAnyH_ready (rs := [6]) (by kernel_rfl) (by simp) ?_
            refine' (AllReadyH.cons (o := _) ?hir18_6 (fun K hK => ?br18_6) AllReadyH.nil)
            case hir18_6 => (simp only [List.getElem?_toArray, List.getElem?_cons_succ, List.getElem?_cons_zero]; rfl)
            case br18_6 =>
              refine step_of_wp rfl ?_
              refine wp_store_row 40 (.tmp 7) (.tmp 12) rfl _ (bytesA (fbytes x)) rfl rfl 40 z N7_17.out okx.out.1 okx.out.2.2 okx.out.2.1 ?_
              refine hK.out _ _ ?_ (fun hHeld => ?_)
              exact below_row H17.out G7_17.out _
              have H19 := Lib.hid (below_row H17.out G7_17.out (bytesA (fbytes x)))
              have N7_19 := Lib.hid (N7_17.out.row (bytesA (fbytes x)))
              have N8_19 := Lib.hid (N8_17.out.rowFar (g' := _) (fun e => NE17.out (by first | exact e | exact e.symm)) (bytesA (fbytes x)))
              clear hK K
              (try simp only [Act.put, List.setIfInBounds_toArray, List.set_cons_zero, List.set_cons_succ])
              refine wpAnyH_ready (rs := [7]) (by kernel_rfl) (by simp) ?_
              refine' (AllReadyH.cons (o := _) ?hir20_7 (fun K hK => ?br20_7) AllReadyH.nil)
              case hir20_7 => (simp only [List.getElem?_toArray, List.getElem?_cons_succ, List.getElem?_cons_zero]; rfl)
              case br20_7 =>
                refine step_of_wp rfl ?_
                refine wp_store_row 40 (.tmp 8) (.tmp 14) rfl _ (bytesA (fbytes y)) rfl rfl 40 z N8_19.out oky.out.1 oky.out.2.2 oky.out.2.1 ?_
                refine hK.out _ _ ?_ (fun hHeld => ?_)
                exact below_row H19.out G8_15.out _
                have H21 := Lib.hid (below_row H19.out G8_15.out (bytesA (fbytes y)))
                have N8_21 := Lib.hid (N8_19.out.row (bytesA (fbytes y)))
                have N7_21 := Lib.hid (N7_19.out.rowFar (g' := _) (fun e => NE17.out (by first | exact e | exact e.symm)) (bytesA (fbytes y)))
                clear hK K
                (try simp only [Act.put, List.setIfInBounds_toArray, List.set_cons_zero, List.set_cons_succ])
                refine wpAnyH_done (by kernel_rfl) ?_ _
                go_wp2_with fail
                go_meet
                exact ⟨_, _, rfl, rfl, N7_21.out, N8_21.out, H21.out⟩
      case br5_4 =>
        go_simp
        refine hK.out _ _ ?_ (fun hHeld => ?_)
        · exact (H4.out.alloc H4.out.size _)
        have H22 := Lib.hid (H4.out.alloc H4.out.size (.cells z 40))
        have N7_22 := Lib.hid (alloc_new H4.out 40 z)
        have G7_22 := Lib.hid H4.out.size
        clear hK K
        (try simp only [Act.put, List.setIfInBounds_toArray, List.set_cons_zero, List.set_cons_succ])
        refine wpAnyH_ready (rs := [3, 5]) (by kernel_rfl) (by simp) ?_
        refine' (AllReadyH.cons (o := _) ?hir23_3 (fun K hK => ?br23_3) (AllReadyH.cons (o := _) ?hir23_5 (fun K hK => ?br23_5) AllReadyH.nil))
        case hir23_3 => (simp only [List.getElem?_toArray, List.getElem?_cons_succ, List.getElem?_cons_zero]; rfl)
        case hir23_5 => (simp only [List.getElem?_toArray, List.getElem?_cons_succ, List.getElem?_cons_zero]; rfl)
        case br23_3 =>
          go_simp
          refine (CR1.out _ _ (R1.out _ H22.out) (H.old (H.old HQ.out HB.out) H22.out)).mono ?_
          rintro e w24 ⟨rfl, hb24⟩
          have H24 := Lib.hid (H22.out.trans (hb24.mono H22.out.size))
          have N7_24 := Lib.hid (N7_22.out.old hb24)
          clear hb24
          go_wp2_with fail
          refine hK.out _ _ ?_ (fun hHeld => ?_)
          exact H24.out
          clear hK K
          (try simp only [Act.put, List.setIfInBounds_toArray, List.set_cons_zero, List.set_cons_succ])
          refine wpAnyH_ready (rs := [5]) (by kernel_rfl) (by simp) ?_
          refine' (AllReadyH.cons (o := _) ?hir25_5 (fun K hK => ?br25_5) AllReadyH.nil)
          case hir25_5 => (simp only [List.getElem?_toArray, List.getElem?_cons_succ, List.getElem?_cons_zero]; rfl)
          case br25_5 =>
            go_simp
            refine hK.out _ _ ?_ (fun hHeld => ?_)
            · exact (H24.out.alloc H24.out.size _)
            have H26 := Lib.hid (H24.out.alloc H24.out.size (.cells z 40))
            have NE26 := Lib.hid (Nat.ne_of_lt N7_24.out.lt)
            have N7_26 := Lib.hid (N7_24.out.alloc (.cells z 40))
            have N8_26 := Lib.hid (alloc_new H24.out 40 z)
            have G8_26 := Lib.hid H24.out.size
            clear hK K
            (try simp only [Act.put, List.setIfInBounds_toArray, List.set_cons_zero, List.set_cons_succ])
            refine wpAnyH_ready (rs := [6]) (by kernel_rfl) (by simp) ?_
            refine' (AllReadyH.cons (o := _) ?hir27_6 (fun K hK => ?br27_6) AllReadyH.nil)
            case hir27_6 => (simp only [List.getElem?_toArray, List.getElem?_cons_succ, List.getElem?_cons_zero]; rfl)
            case br27_6 =>
              refine step_of_wp rfl ?_
              refine wp_store_row 40 (.tmp 7) (.tmp 12) rfl _ (bytesA (fbytes x)) rfl rfl 40 z N7_26.out okx.out.1 okx.out.2.2 okx.out.2.1 ?_
              refine hK.out _ _ ?_ (fun hHeld => ?_)
              exact below_row H26.out G7_22.out _
              have H28 := Lib.hid (below_row H26.out G7_22.out (bytesA (fbytes x)))
              have N7_28 := Lib.hid (N7_26.out.row (bytesA (fbytes x)))
              have N8_28 := Lib.hid (N8_26.out.rowFar (g' := _) (fun e => NE26.out (by first | exact e | exact e.symm)) (bytesA (fbytes x)))
              clear hK K
              (try simp only [Act.put, List.setIfInBounds_toArray, List.set_cons_zero, List.set_cons_succ])
              refine wpAnyH_ready (rs := [7]) (by kernel_rfl) (by simp) ?_
              refine' (AllReadyH.cons (o := _) ?hir29_7 (fun K hK => ?br29_7) AllReadyH.nil)
              case hir29_7 => (simp only [List.getElem?_toArray, List.getElem?_cons_succ, List.getElem?_cons_zero]; rfl)
              case br29_7 =>
                refine step_of_wp rfl ?_
                refine wp_store_row 40 (.tmp 8) (.tmp 14) rfl _ (bytesA (fbytes y)) rfl rfl 40 z N8_28.out oky.out.1 oky.out.2.2 oky.out.2.1 ?_
                refine hK.out _ _ ?_ (fun hHeld => ?_)
                exact below_row H28.out G8_26.out _
                have H30 := Lib.hid (below_row H28.out G8_26.out (bytesA (fbytes y)))
                have N8_30 := Lib.hid (N8_28.out.row (bytesA (fbytes y)))
                have N7_30 := Lib.hid (N7_28.out.rowFar (g' := _) (fun e => NE26.out (by first | exact e | exact e.symm)) (bytesA (fbytes y)))
                clear hK K
                (try simp only [Act.put, List.setIfInBounds_toArray, List.set_cons_zero, List.set_cons_succ])
                refine wpAnyH_done (by kernel_rfl) ?_ _
                go_wp2_with fail
                go_meet
                exact ⟨_, _, rfl, rfl, N7_30.out, N8_30.out, H30.out⟩
        case br23_5 =>
          go_simp
          refine hK.out _ _ ?_ (fun hHeld => ?_)
          · exact (H22.out.alloc H22.out.size _)
          have H31 := Lib.hid (H22.out.alloc H22.out.size (.cells z 40))
          have NE31 := Lib.hid (blk_ne2 N7_22.out)
          have N7_31 := Lib.hid (N7_22.out.alloc (.cells z 40))
          have N8_31 := Lib.hid (alloc_new2 H22.out 40 z)
          have G8_31 := Lib.hid (alloc_size2 H22.out)
          clear hK K
          (try simp only [Act.put, List.setIfInBounds_toArray, List.set_cons_zero, List.set_cons_succ])
          refine wpAnyH_ready (rs := [3]) (by kernel_rfl) (by simp) ?_
          refine' (AllReadyH.cons (o := _) ?hir32_3 (fun K hK => ?br32_3) AllReadyH.nil)
          case hir32_3 => (simp only [List.getElem?_toArray, List.getElem?_cons_succ, List.getElem?_cons_zero]; rfl)
          case br32_3 =>
            go_simp
            refine (CR1.out _ _ (R1.out _ H31.out) (H.old (H.old HQ.out HB.out) H31.out)).mono ?_
            rintro e w33 ⟨rfl, hb33⟩
            have H33 := Lib.hid (H31.out.trans (hb33.mono H31.out.size))
            have N7_33 := Lib.hid (N7_31.out.old hb33)
            have N8_33 := Lib.hid (N8_31.out.old hb33)
            clear hb33
            go_wp2_with fail
            refine hK.out _ _ ?_ (fun hHeld => ?_)
            exact H33.out
            clear hK K
            (try simp only [Act.put, List.setIfInBounds_toArray, List.set_cons_zero, List.set_cons_succ])
            refine wpAnyH_ready (rs := [6]) (by kernel_rfl) (by simp) ?_
            refine' (AllReadyH.cons (o := _) ?hir34_6 (fun K hK => ?br34_6) AllReadyH.nil)
            case hir34_6 => (simp only [List.getElem?_toArray, List.getElem?_cons_succ, List.getElem?_cons_zero]; rfl)
            case br34_6 =>
              refine step_of_wp rfl ?_
              refine wp_store_row 40 (.tmp 7) (.tmp 12) rfl _ (bytesA (fbytes x)) rfl rfl 40 z N7_33.out okx.out.1 okx.out.2.2 okx.out.2.1 ?_
              refine hK.out _ _ ?_ (fun hHeld => ?_)
              exact below_row H33.out G7_22.out _
              have H35 := Lib.hid (below_row H33.out G7_22.out (bytesA (fbytes x)))
              have N7_35 := Lib.hid (N7_33.out.row (bytesA (fbytes x)))
              have N8_35 := Lib.hid (N8_33.out.rowFar (g' := _) (fun e => NE31.out (by first | exact e | exact e.symm)) (bytesA (fbytes x)))
              clear hK K
              (try simp only [Act.put, List.setIfInBounds_toArray, List.set_cons_zero, List.set_cons_succ])
              refine wpAnyH_ready (rs := [7]) (by kernel_rfl) (by simp) ?_
              refine' (AllReadyH.cons (o := _) ?hir36_7 (fun K hK => ?br36_7) AllReadyH.nil)
              case hir36_7 => (simp only [List.getElem?_toArray, List.getElem?_cons_succ, List.getElem?_cons_zero]; rfl)
              case br36_7 =>
                refine step_of_wp rfl ?_
                refine wp_store_row 40 (.tmp 8) (.tmp 14) rfl _ (bytesA (fbytes y)) rfl rfl 40 z N8_35.out oky.out.1 oky.out.2.2 oky.out.2.1 ?_
                refine hK.out _ _ ?_ (fun hHeld => ?_)
                exact below_row H35.out G8_31.out _
                have H37 := Lib.hid (below_row H35.out G8_31.out (bytesA (fbytes y)))
                have N8_37 := Lib.hid (N8_35.out.row (bytesA (fbytes y)))
                have N7_37 := Lib.hid (N7_35.out.rowFar (g' := _) (fun e => NE31.out (by first | exact e | exact e.symm)) (bytesA (fbytes y)))
                clear hK K
                (try simp only [Act.put, List.setIfInBounds_toArray, List.set_cons_zero, List.set_cons_succ])
                refine wpAnyH_done (by kernel_rfl) ?_ _
                go_wp2_with fail
                go_meet
                exact ⟨_, _, rfl, rfl, N7_37.out, N8_37.out, H37.out⟩
      case br5_5 =>
        go_simp
        refine hK.out _ _ ?_ (fun hHeld => ?_)
        · exact (H4.out.alloc H4.out.size _)
        have H38 := Lib.hid (H4.out.alloc H4.out.size (.cells z 40))
        have N8_38 := Lib.hid (alloc_new H4.out 40 z)
        have G8_38 := Lib.hid H4.out.size
        clear hK K
        (try simp only [Act.put, List.setIfInBounds_toArray, List.set_cons_zero, List.set_cons_succ])
        refine wpAnyH_ready (rs := [3, 4]) (by kernel_rfl) (by simp) ?_
        refine' (AllReadyH.cons (o := _) ?hir39_3 (fun K hK => ?br39_3) (AllReadyH.cons (o := _) ?hir39_4 (fun K hK => ?br39_4) AllReadyH.nil))
        case hir39_3 => (simp only [List.getElem?_toArray, List.getElem?_cons_succ, List.getElem?_cons_zero]; rfl)
        case hir39_4 => (simp only [List.getElem?_toArray, List.getElem?_cons_succ, List.getElem?_cons_zero]; rfl)
        case br39_3 =>
          go_simp
          refine (CR1.out _ _ (R1.out _ H38.out) (H.old (H.old HQ.out HB.out) H38.out)).mono ?_
          rintro e w40 ⟨rfl, hb40⟩
          have H40 := Lib.hid (H38.out.trans (hb40.mono H38.out.size))
          have N8_40 := Lib.hid (N8_38.out.old hb40)
          clear hb40
          go_wp2_with fail
          refine hK.out _ _ ?_ (fun hHeld => ?_)
          exact H40.out
          clear hK K
          (try simp only [Act.put, List.setIfInBounds_toArray, List.set_cons_zero, List.set_cons_succ])
          refine wpAnyH_ready (rs := [4]) (by kernel_rfl) (by simp) ?_
          refine' (AllReadyH.cons (o := _) ?hir41_4 (fun K hK => ?br41_4) AllReadyH.nil)
          case hir41_4 => (simp only [List.getElem?_toArray, List.getElem?_cons_succ, List.getElem?_cons_zero]; rfl)
          case br41_4 =>
            go_simp
            refine hK.out _ _ ?_ (fun hHeld => ?_)
            · exact (H40.out.alloc H40.out.size _)
            have H42 := Lib.hid (H40.out.alloc H40.out.size (.cells z 40))
            have NE42 := Lib.hid (Nat.ne_of_lt N8_40.out.lt)
            have N8_42 := Lib.hid (N8_40.out.alloc (.cells z 40))
            have N7_42 := Lib.hid (alloc_new H40.out 40 z)
            have G7_42 := Lib.hid H40.out.size
            clear hK K
            (try simp only [Act.put, List.setIfInBounds_toArray, List.set_cons_zero, List.set_cons_succ])
            refine wpAnyH_ready (rs := [6]) (by kernel_rfl) (by simp) ?_
            refine' (AllReadyH.cons (o := _) ?hir43_6 (fun K hK => ?br43_6) AllReadyH.nil)
            case hir43_6 => (simp only [List.getElem?_toArray, List.getElem?_cons_succ, List.getElem?_cons_zero]; rfl)
            case br43_6 =>
              refine step_of_wp rfl ?_
              refine wp_store_row 40 (.tmp 7) (.tmp 12) rfl _ (bytesA (fbytes x)) rfl rfl 40 z N7_42.out okx.out.1 okx.out.2.2 okx.out.2.1 ?_
              refine hK.out _ _ ?_ (fun hHeld => ?_)
              exact below_row H42.out G7_42.out _
              have H44 := Lib.hid (below_row H42.out G7_42.out (bytesA (fbytes x)))
              have N7_44 := Lib.hid (N7_42.out.row (bytesA (fbytes x)))
              have N8_44 := Lib.hid (N8_42.out.rowFar (g' := _) (fun e => NE42.out (by first | exact e | exact e.symm)) (bytesA (fbytes x)))
              clear hK K
              (try simp only [Act.put, List.setIfInBounds_toArray, List.set_cons_zero, List.set_cons_succ])
              refine wpAnyH_ready (rs := [7]) (by kernel_rfl) (by simp) ?_
              refine' (AllReadyH.cons (o := _) ?hir45_7 (fun K hK => ?br45_7) AllReadyH.nil)
              case hir45_7 => (simp only [List.getElem?_toArray, List.getElem?_cons_succ, List.getElem?_cons_zero]; rfl)
              case br45_7 =>
                refine step_of_wp rfl ?_
                refine wp_store_row 40 (.tmp 8) (.tmp 14) rfl _ (bytesA (fbytes y)) rfl rfl 40 z N8_44.out oky.out.1 oky.out.2.2 oky.out.2.1 ?_
                refine hK.out _ _ ?_ (fun hHeld => ?_)
                exact below_row H44.out G8_38.out _
                have H46 := Lib.hid (below_row H44.out G8_38.out (bytesA (fbytes y)))
                have N8_46 := Lib.hid (N8_44.out.row (bytesA (fbytes y)))
                have N7_46 := Lib.hid (N7_44.out.rowFar (g' := _) (fun e => NE42.out (by first | exact e | exact e.symm)) (bytesA (fbytes y)))
                clear hK K
                (try simp only [Act.put, List.setIfInBounds_toArray, List.set_cons_zero, List.set_cons_succ])
                refine wpAnyH_done (by kernel_rfl) ?_ _
                go_wp2_with fail
                go_meet
                exact ⟨_, _, rfl, rfl, N7_46.out, N8_46.out, H46.out⟩
        case br39_4 =>
          go_simp
          refine hK.out _ _ ?_ (fun hHeld => ?_)
          · exact (H38.out.alloc H38.out.size _)
          have H47 := Lib.hid (H38.out.alloc H38.out.size (.cells z 40))
          have NE47 := Lib.hid (blk_ne2 N8_38.out)
          have N8_47 := Lib.hid (N8_38.out.alloc (.cells z 40))
          have N7_47 := Lib.hid (alloc_new2 H38.out 40 z)
          have G7_47 := Lib.hid (alloc_size2 H38.out)
          clear hK K
          (try simp only [Act.put, List.setIfInBounds_toArray, List.set_cons_zero, List.set_cons_succ])
          refine wpAnyH_ready (rs := [3]) (by kernel_rfl) (by simp) ?_
          refine' (AllReadyH.cons (o := _) ?hir48_3 (fun K hK => ?br48_3) AllReadyH.nil)
          case hir48_3 => (simp only [List.getElem?_toArray, List.getElem?_cons_succ, List.getElem?_cons_zero]; rfl)
          case br48_3 =>
            go_simp
            refine (CR1.out _ _ (R1.out _ H47.out) (H.old (H.old HQ.out HB.out) H47.out)).mono ?_
            rintro e w49 ⟨rfl, hb49⟩
            have H49 := Lib.hid (H47.out.trans (hb49.mono H47.out.size))
            have N8_49 := Lib.hid (N8_47.out.old hb49)
            have N7_49 := Lib.hid (N7_47.out.old hb49)
            clear hb49
            go_wp2_with fail
            refine hK.out _ _ ?_ (fun hHeld => ?_)
            exact H49.out
            clear hK K
            (try simp only [Act.put, List.setIfInBounds_toArray, List.set_cons_zero, List.set_cons_succ])
            refine wpAnyH_ready (rs := [6]) (by kernel_rfl) (by simp) ?_
            refine' (AllReadyH.cons (o := _) ?hir50_6 (fun K hK => ?br50_6) AllReadyH.nil)
            case hir50_6 => (simp only [List.getElem?_toArray, List.getElem?_cons_succ, List.getElem?_cons_zero]; rfl)
            case br50_6 =>
              refine step_of_wp rfl ?_
              refine wp_store_row 40 (.tmp 7) (.tmp 12) rfl _ (bytesA (fbytes x)) rfl rfl 40 z N7_49.out okx.out.1 okx.out.2.2 okx.out.2.1 ?_
              refine hK.out _ _ ?_ (fun hHeld => ?_)
              exact below_row H49.out G7_47.out _
              have H51 := Lib.hid (below_row H49.out G7_47.out (bytesA (fbytes x)))
              have N7_51 := Lib.hid (N7_49.out.row (bytesA (fbytes x)))
              have N8_51 := Lib.hid (N8_49.out.rowFar (g' := _) (fun e => NE47.out (by first | exact e | exact e.symm)) (bytesA (fbytes x)))
              clear hK K
              (try simp only [Act.put, List.setIfInBounds_toArray, List.set_cons_zero, List.set_cons_succ])
              refine wpAnyH_ready (rs := [7]) (by kernel_rfl) (by simp) ?_
              refine' (AllReadyH.cons (o := _) ?hir52_7 (fun K hK => ?br52_7) AllReadyH.nil)
              case hir52_7 => (simp only [List.getElem?_toArray, List.getElem?_cons_succ, List.getElem?_cons_zero]; rfl)
              case br52_7 =>
                refine step_of_wp rfl ?_
                refine wp_store_row 40 (.tmp 8) (.tmp 14) rfl _ (bytesA (fbytes y)) rfl rfl 40 z N8_51.out oky.out.1 oky.out.2.2 oky.out.2.1 ?_
                refine hK.out _ _ ?_ (fun hHeld => ?_)
                exact below_row H51.out G8_38.out _
                have H53 := Lib.hid (below_row H51.out G8_38.out (bytesA (fbytes y)))
                have N8_53 := Lib.hid (N8_51.out.row (bytesA (fbytes y)))
                have N7_53 := Lib.hid (N7_51.out.rowFar (g' := _) (fun e => NE47.out (by first | exact e | exact e.symm)) (bytesA (fbytes y)))
                clear hK K
                (try simp only [Act.put, List.setIfInBounds_toArray, List.set_cons_zero, List.set_cons_succ])
                refine wpAnyH_done (by kernel_rfl) ?_ _
                go_wp2_with fail
                go_meet
                exact ⟨_, _, rfl, rfl, N7_53.out, N8_53.out, H53.out⟩
    case br3_4 =>
      go_simp
      refine hK.out _ _ ?_ (fun hHeld => ?_)
      · exact (HBW3.out.alloc HBW3.out.size _)
      have H54 := Lib.hid (HBW3.out.alloc HBW3.out.size (.cells z 40))
      have N7_54 := Lib.hid (alloc_new HBW3.out 40 z)
      have G7_54 := Lib.hid HBW3.out.size
      clear hK K
      (try simp only [Act.put, List.setIfInBounds_toArray, List.set_cons_zero, List.set_cons_succ])
      refine wpAnyH_ready (rs := [1, 5]) (by kernel_rfl) (by simp) ?_
      refine' (AllReadyH.cons (o := _) ?hir55_1 (fun K hK => ?br55_1) (AllReadyH.cons (o := _) ?hir55_5 (fun K hK => ?br55_5) AllReadyH.nil))
      case hir55_1 => (simp only [List.getElem?_toArray, List.getElem?_cons_succ, List.getElem?_cons_zero]; rfl)
      case hir55_5 => (simp only [List.getElem?_toArray, List.getElem?_cons_succ, List.getElem?_cons_zero]; rfl)
      case br55_1 =>
        go_simp
        refine (CR0.out _ _ (R0.out _ H54.out) (H.old (H.old HQ.out HB.out) H54.out)).mono ?_
        rintro e w56 ⟨rfl, hb56⟩
        have H56 := Lib.hid (H54.out.trans (hb56.mono H54.out.size))
        have N7_56 := Lib.hid (N7_54.out.old hb56)
        clear hb56
        go_wp2_with fail
        refine hK.out _ _ ?_ (fun hHeld => ?_)
        exact H56.out
        clear hK K
        (try simp only [Act.put, List.setIfInBounds_toArray, List.set_cons_zero, List.set_cons_succ])
        refine wpAnyH_ready (rs := [3, 5]) (by kernel_rfl) (by simp) ?_
        refine' (AllReadyH.cons (o := _) ?hir57_3 (fun K hK => ?br57_3) (AllReadyH.cons (o := _) ?hir57_5 (fun K hK => ?br57_5) AllReadyH.nil))
        case hir57_3 => (simp only [List.getElem?_toArray, List.getElem?_cons_succ, List.getElem?_cons_zero]; rfl)
        case hir57_5 => (simp only [List.getElem?_toArray, List.getElem?_cons_succ, List.getElem?_cons_zero]; rfl)
        case br57_3 =>
          go_simp
          refine (CR1.out _ _ (R1.out _ H56.out) (H.old (H.old HQ.out HB.out) H56.out)).mono ?_
          rintro e w58 ⟨rfl, hb58⟩
          have H58 := Lib.hid (H56.out.trans (hb58.mono H56.out.size))
          have N7_58 := Lib.hid (N7_56.out.old hb58)
          clear hb58
          go_wp2_with fail
          refine hK.out _ _ ?_ (fun hHeld => ?_)
          exact H58.out
          clear hK K
          (try simp only [Act.put, List.setIfInBounds_toArray, List.set_cons_zero, List.set_cons_succ])
          refine wpAnyH_ready (rs := [5]) (by kernel_rfl) (by simp) ?_
          refine' (AllReadyH.cons (o := _) ?hir59_5 (fun K hK => ?br59_5) AllReadyH.nil)
          case hir59_5 => (simp only [List.getElem?_toArray, List.getElem?_cons_succ, List.getElem?_cons_zero]; rfl)
          case br59_5 =>
            go_simp
            refine hK.out _ _ ?_ (fun hHeld => ?_)
            · exact (H58.out.alloc H58.out.size _)
            have H60 := Lib.hid (H58.out.alloc H58.out.size (.cells z 40))
            have NE60 := Lib.hid (Nat.ne_of_lt N7_58.out.lt)
            have N7_60 := Lib.hid (N7_58.out.alloc (.cells z 40))
            have N8_60 := Lib.hid (alloc_new H58.out 40 z)
            have G8_60 := Lib.hid H58.out.size
            clear hK K
            (try simp only [Act.put, List.setIfInBounds_toArray, List.set_cons_zero, List.set_cons_succ])
            refine wpAnyH_ready (rs := [6]) (by kernel_rfl) (by simp) ?_
            refine' (AllReadyH.cons (o := _) ?hir61_6 (fun K hK => ?br61_6) AllReadyH.nil)
            case hir61_6 => (simp only [List.getElem?_toArray, List.getElem?_cons_succ, List.getElem?_cons_zero]; rfl)
            case br61_6 =>
              refine step_of_wp rfl ?_
              refine wp_store_row 40 (.tmp 7) (.tmp 12) rfl _ (bytesA (fbytes x)) rfl rfl 40 z N7_60.out okx.out.1 okx.out.2.2 okx.out.2.1 ?_
              refine hK.out _ _ ?_ (fun hHeld => ?_)
              exact below_row H60.out G7_54.out _
              have H62 := Lib.hid (below_row H60.out G7_54.out (bytesA (fbytes x)))
              have N7_62 := Lib.hid (N7_60.out.row (bytesA (fbytes x)))
              have N8_62 := Lib.hid (N8_60.out.rowFar (g' := _) (fun e => NE60.out (by first | exact e | exact e.symm)) (bytesA (fbytes x)))
              clear hK K
              (try simp only [Act.put, List.setIfInBounds_toArray, List.set_cons_zero, List.set_cons_succ])
              refine wpAnyH_ready (rs := [7]) (by kernel_rfl) (by simp) ?_
              refine' (AllReadyH.cons (o := _) ?hir63_7 (fun K hK => ?br63_7) AllReadyH.nil)
              case hir63_7 => (simp only [List.getElem?_toArray, List.getElem?_cons_succ, List.getElem?_cons_zero]; rfl)
              case br63_7 =>
                refine step_of_wp rfl ?_
                refine wp_store_row 40 (.tmp 8) (.tmp 14) rfl _ (bytesA (fbytes y)) rfl rfl 40 z N8_62.out oky.out.1 oky.out.2.2 oky.out.2.1 ?_
                refine hK.out _ _ ?_ (fun hHeld => ?_)
                exact below_row H62.out G8_60.out _
                have H64 := Lib.hid (below_row H62.out G8_60.out (bytesA (fbytes y)))
                have N8_64 := Lib.hid (N8_62.out.row (bytesA (fbytes y)))
                have N7_64 := Lib.hid (N7_62.out.rowFar (g' := _) (fun e => NE60.out (by first | exact e | exact e.symm)) (bytesA (fbytes y)))
                clear hK K
                (try simp only [Act.put, List.setIfInBounds_toArray, List.set_cons_zero, List.set_cons_succ])
                refine wpAnyH_done (by kernel_rfl) ?_ _
                go_wp2_with fail
                go_meet
                exact ⟨_, _, rfl, rfl, N7_64.out, N8_64.out, H64.out⟩
        case br57_5 =>
          go_simp
          refine hK.out _ _ ?_ (fun hHeld => ?_)
          · exact (H56.out.alloc H56.out.size _)
          have H65 := Lib.hid (H56.out.alloc H56.out.size (.cells z 40))
          have NE65 := Lib.hid (Nat.ne_of_lt N7_56.out.lt)
          have N7_65 := Lib.hid (N7_56.out.alloc (.cells z 40))
          have N8_65 := Lib.hid (alloc_new H56.out 40 z)
          have G8_65 := Lib.hid H56.out.size
          clear hK K
          (try simp only [Act.put, List.setIfInBounds_toArray, List.set_cons_zero, List.set_cons_succ])
          refine wpAnyH_ready (rs := [3]) (by kernel_rfl) (by simp) ?_
          refine' (AllReadyH.cons (o := _) ?hir66_3 (fun K hK => ?br66_3) AllReadyH.nil)
          case hir66_3 => (simp only [List.getElem?_toArray, List.getElem?_cons_succ, List.getElem?_cons_zero]; rfl)
          case br66_3 =>
            go_simp
            refine (CR1.out _ _ (R1.out _ H65.out) (H.old (H.old HQ.out HB.out) H65.out)).mono ?_
            rintro e w67 ⟨rfl, hb67⟩
            have H67 := Lib.hid (H65.out.trans (hb67.mono H65.out.size))
            have N7_67 := Lib.hid (N7_65.out.old hb67)
            have N8_67 := Lib.hid (N8_65.out.old hb67)
            clear hb67
            go_wp2_with fail
            refine hK.out _ _ ?_ (fun hHeld => ?_)
            exact H67.out
            clear hK K
            (try simp only [Act.put, List.setIfInBounds_toArray, List.set_cons_zero, List.set_cons_succ])
            refine wpAnyH_ready (rs := [6]) (by kernel_rfl) (by simp) ?_
            refine' (AllReadyH.cons (o := _) ?hir68_6 (fun K hK => ?br68_6) AllReadyH.nil)
            case hir68_6 => (simp only [List.getElem?_toArray, List.getElem?_cons_succ, List.getElem?_cons_zero]; rfl)
            case br68_6 =>
              refine step_of_wp rfl ?_
              refine wp_store_row 40 (.tmp 7) (.tmp 12) rfl _ (bytesA (fbytes x)) rfl rfl 40 z N7_67.out okx.out.1 okx.out.2.2 okx.out.2.1 ?_
              refine hK.out _ _ ?_ (fun hHeld => ?_)
              exact below_row H67.out G7_54.out _
              have H69 := Lib.hid (below_row H67.out G7_54.out (bytesA (fbytes x)))
              have N7_69 := Lib.hid (N7_67.out.row (bytesA (fbytes x)))
              have N8_69 := Lib.hid (N8_67.out.rowFar (g' := _) (fun e => NE65.out (by first | exact e | exact e.symm)) (bytesA (fbytes x)))
              clear hK K
              (try simp only [Act.put, List.setIfInBounds_toArray, List.set_cons_zero, List.set_cons_succ])
              refine wpAnyH_ready (rs := [7]) (by kernel_rfl) (by simp) ?_
              refine' (AllReadyH.cons (o := _) ?hir70_7 (fun K hK => ?br70_7) AllReadyH.nil)
              case hir70_7 => (simp only [List.getElem?_toArray, List.getElem?_cons_succ, List.getElem?_cons_zero]; rfl)
              case br70_7 =>
                refine step_of_wp rfl ?_
                refine wp_store_row 40 (.tmp 8) (.tmp 14) rfl _ (bytesA (fbytes y)) rfl rfl 40 z N8_69.out oky.out.1 oky.out.2.2 oky.out.2.1 ?_
                refine hK.out _ _ ?_ (fun hHeld => ?_)
                exact below_row H69.out G8_65.out _
                have H71 := Lib.hid (below_row H69.out G8_65.out (bytesA (fbytes y)))
                have N8_71 := Lib.hid (N8_69.out.row (bytesA (fbytes y)))
                have N7_71 := Lib.hid (N7_69.out.rowFar (g' := _) (fun e => NE65.out (by first | exact e | exact e.symm)) (bytesA (fbytes y)))
                clear hK K
                (try simp only [Act.put, List.setIfInBounds_toArray, List.set_cons_zero, List.set_cons_succ])
                refine wpAnyH_done (by kernel_rfl) ?_ _
                go_wp2_with fail
                go_meet
                exact ⟨_, _, rfl, rfl, N7_71.out, N8_71.out, H71.out⟩
      case br55_5 =>
        go_simp
        refine hK.out _ _ ?_ (fun hHeld => ?_)
        · exact (H54.out.alloc H54.out.size _)
        have H72 := Lib.hid (H54.out.alloc H54.out.size (.cells z 40))
        have NE72 := Lib.hid (blk_ne2 N7_54.out)
        have N7_72 := Lib.hid (N7_54.out.alloc (.cells z 40))
        have N8_72 := Lib.hid (alloc_new2 H54.out 40 z)
        have G8_72 := Lib.hid (alloc_size2 H54.out)
        clear hK K
        (try simp only [Act.put, List.setIfInBounds_toArray, List.set_cons_zero, List.set_cons_succ])
        refine wpAnyH_ready (rs := [1]) (by kernel_rfl) (by simp) ?_
        refine' (AllReadyH.cons (o := _) ?hir73_1 (fun K hK => ?br73_1) AllReadyH.nil)
        case hir73_1 => (simp only [List.getElem?_toArray, List.getElem?_cons_succ, List.getElem?_cons_zero]; rfl)
        case br73_1 =>
          go_simp
          refine (CR0.out _ _ (R0.out _ H72.out) (H.old (H.old HQ.out HB.out) H72.out)).mono ?_
          rintro e w74 ⟨rfl, hb74⟩
          have H74 := Lib.hid (H72.out.trans (hb74.mono H72.out.size))
          have N7_74 := Lib.hid (N7_72.out.old hb74)
          have N8_74 := Lib.hid (N8_72.out.old hb74)
          clear hb74
          go_wp2_with fail
          refine hK.out _ _ ?_ (fun hHeld => ?_)
          exact H74.out
          clear hK K
          (try simp only [Act.put, List.setIfInBounds_toArray, List.set_cons_zero, List.set_cons_succ])
          refine wpAnyH_ready (rs := [3]) (by kernel_rfl) (by simp) ?_
          refine' (AllReadyH.cons (o := _) ?hir75_3 (fun K hK => ?br75_3) AllReadyH.nil)
          case hir75_3 => (simp only [List.getElem?_toArray, List.getElem?_cons_succ, List.getElem?_cons_zero]; rfl)
          case br75_3 =>
            go_simp
            refine (CR1.out _ _ (R1.out _ H74.out) (H.old (H.old HQ.out HB.out) H74.out)).mono ?_
            rintro e w76 ⟨rfl, hb76⟩
            have H76 := Lib.hid (H74.out.trans (hb76.mono H74.out.size))
            have N7_76 := Lib.hid (N7_74.out.old hb76)
            have N8_76 := Lib.hid (N8_74.out.old hb76)
            clear hb76
            go_wp2_with fail
            refine hK.out _ _ ?_ (fun hHeld => ?_)
            exact H76.out
            clear hK K
            (try simp only [Act.put, List.setIfInBounds_toArray, List.set_cons_zero, List.set_cons_succ])
            refine wpAnyH_ready (rs := [6]) (by kernel_rfl) (by simp) ?_
            refine' (AllReadyH.cons (o := _) ?hir77_6 (fun K hK => ?br77_6) AllReadyH.nil)
            case hir77_6 => (simp only [List.getElem?_toArray, List.getElem?_cons_succ, List.getElem?_cons_zero]; rfl)
            case br77_6 =>
              refine step_of_wp rfl ?_
              refine wp_store_row 40 (.tmp 7) (.tmp 12) rfl _ (bytesA (fbytes x)) rfl rfl 40 z N7_76.out okx.out.1 okx.out.2.2 okx.out.2.1 ?_
              refine hK.out _ _ ?_ (fun hHeld => ?_)
              exact below_row H76.out G7_54.out _
              have H78 := Lib.hid (below_row H76.out G7_54.out (bytesA (fbytes x)))
              have N7_78 := Lib.hid (N7_76.out.row (bytesA (fbytes x)))
              have N8_78 := Lib.hid (N8_76.out.rowFar (g' := _) (fun e => NE72.out (by first | exact e | exact e.symm)) (bytesA (fbytes x)))
              clear hK K
              (try simp only [Act.put, List.setIfInBounds_toArray, List.set_cons_zero, List.set_cons_succ])
              refine wpAnyH_ready (rs := [7]) (by kernel_rfl) (by simp) ?_
              refine' (AllReadyH.cons (o := _) ?hir79_7 (fun K hK => ?br79_7) AllReadyH.nil)
              case hir79_7 => (simp only [List.getElem?_toArray, List.getElem?_cons_succ, List.getElem?_cons_zero]; rfl)
              case br79_7 =>
                refine step_of_wp rfl ?_
                refine wp_store_row 40 (.tmp 8) (.tmp 14) rfl _ (bytesA (fbytes y)) rfl rfl 40 z N8_78.out oky.out.1 oky.out.2.2 oky.out.2.1 ?_
                refine hK.out _ _ ?_ (fun hHeld => ?_)
                exact below_row H78.out G8_72.out _
                have H80 := Lib.hid (below_row H78.out G8_72.out (bytesA (fbytes y)))
                have N8_80 := Lib.hid (N8_78.out.row (bytesA (fbytes y)))
                have N7_80 := Lib.hid (N7_78.out.rowFar (g' := _) (fun e => NE72.out (by first | exact e | exact e.symm)) (bytesA (fbytes y)))
                clear hK K
                (try simp only [Act.put, List.setIfInBounds_toArray, List.set_cons_zero, List.set_cons_succ])
                refine wpAnyH_done (by kernel_rfl) ?_ _
                go_wp2_with fail
                go_meet
                exact ⟨_, _, rfl, rfl, N7_80.out, N8_80.out, H80.out⟩
    case br3_5 =>
      go_simp
      refine hK.out _ _ ?_ (fun hHeld => ?_)
      · exact (HBW3.out.alloc HBW3.out.size _)
      have H81 := Lib.hid (HBW3.out.alloc HBW3.out.size (.cells z 40))
      have N8_81 := Lib.hid (alloc_new HBW3.out 40 z)
      have G8_81 := Lib.hid HBW3.out.size
      clear hK K
      (try simp only [Act.put, List.setIfInBounds_toArray, List.set_cons_zero, List.set_cons_succ])
      refine wpAnyH_ready (rs := [1, 4]) (by kernel_rfl) (by simp) ?_
      refine' (AllReadyH.cons (o := _) ?hir82_1 (fun K hK => ?br82_1) (AllReadyH.cons (o := _) ?hir82_4 (fun K hK => ?br82_4) AllReadyH.nil))
      case hir82_1 => (simp only [List.getElem?_toArray, List.getElem?_cons_succ, List.getElem?_cons_zero]; rfl)
      case hir82_4 => (simp only [List.getElem?_toArray, List.getElem?_cons_succ, List.getElem?_cons_zero]; rfl)
      case br82_1 =>
        go_simp
        refine (CR0.out _ _ (R0.out _ H81.out) (H.old (H.old HQ.out HB.out) H81.out)).mono ?_
        rintro e w83 ⟨rfl, hb83⟩
        have H83 := Lib.hid (H81.out.trans (hb83.mono H81.out.size))
        have N8_83 := Lib.hid (N8_81.out.old hb83)
        clear hb83
        go_wp2_with fail
        refine hK.out _ _ ?_ (fun hHeld => ?_)
        exact H83.out
        clear hK K
        (try simp only [Act.put, List.setIfInBounds_toArray, List.set_cons_zero, List.set_cons_succ])
        refine wpAnyH_ready (rs := [3, 4]) (by kernel_rfl) (by simp) ?_
        refine' (AllReadyH.cons (o := _) ?hir84_3 (fun K hK => ?br84_3) (AllReadyH.cons (o := _) ?hir84_4 (fun K hK => ?br84_4) AllReadyH.nil))
        case hir84_3 => (simp only [List.getElem?_toArray, List.getElem?_cons_succ, List.getElem?_cons_zero]; rfl)
        case hir84_4 => (simp only [List.getElem?_toArray, List.getElem?_cons_succ, List.getElem?_cons_zero]; rfl)
        case br84_3 =>
          go_simp
          refine (CR1.out _ _ (R1.out _ H83.out) (H.old (H.old HQ.out HB.out) H83.out)).mono ?_
          rintro e w85 ⟨rfl, hb85⟩
          have H85 := Lib.hid (H83.out.trans (hb85.mono H83.out.size))
          have N8_85 := Lib.hid (N8_83.out.old hb85)
          clear hb85
          go_wp2_with fail
          refine hK.out _ _ ?_ (fun hHeld => ?_)
          exact H85.out
          clear hK K
          (try simp only [Act.put, List.setIfInBounds_toArray, List.set_cons_zero, List.set_cons_succ])
          refine wpAnyH_ready (rs := [4]) (by kernel_rfl) (by simp) ?_
          refine' (AllReadyH.cons (o := _) ?hir86_4 (fun K hK => ?br86_4) AllReadyH.nil)
          case hir86_4 => (simp only [List.getElem?_toArray, List.getElem?_cons_succ, List.getElem?_cons_zero]; rfl)
          case br86_4 =>
            go_simp
            refine hK.out _ _ ?_ (fun hHeld => ?_)
            · exact (H85.out.alloc H85.out.size _)
            have H87 := Lib.hid (H85.out.alloc H85.out.size (.cells z 40))
            have NE87 := Lib.hid (Nat.ne_of_lt N8_85.out.lt)
            have N8_87 := Lib.hid (N8_85.out.alloc (.cells z 40))
            have N7_87 := Lib.hid (alloc_new H85.out 40 z)
            have G7_87 := Lib.hid H85.out.size
            clear hK K
            (try simp only [Act.put, List.setIfInBounds_toArray, List.set_cons_zero, List.set_cons_succ])
            refine wpAnyH_ready (rs := [6]) (by kernel_rfl) (by simp) ?_
            refine' (AllReadyH.cons (o := _) ?hir88_6 (fun K hK => ?br88_6) AllReadyH.nil)
            case hir88_6 => (simp only [List.getElem?_toArray, List.getElem?_cons_succ, List.getElem?_cons_zero]; rfl)
            case br88_6 =>
              refine step_of_wp rfl ?_
              refine wp_store_row 40 (.tmp 7) (.tmp 12) rfl _ (bytesA (fbytes x)) rfl rfl 40 z N7_87.out okx.out.1 okx.out.2.2 okx.out.2.1 ?_
              refine hK.out _ _ ?_ (fun hHeld => ?_)
              exact below_row H87.out G7_87.out _
              have H89 := Lib.hid (below_row H87.out G7_87.out (bytesA (fbytes x)))
              have N7_89 := Lib.hid (N7_87.out.row (bytesA (fbytes x)))
              have N8_89 := Lib.hid (N8_87.out.rowFar (g' := _) (fun e => NE87.out (by first | exact e | exact e.symm)) (bytesA (fbytes x)))
              clear hK K
              (try simp only [Act.put, List.setIfInBounds_toArray, List.set_cons_zero, List.set_cons_succ])
              refine wpAnyH_ready (rs := [7]) (by kernel_rfl) (by simp) ?_
              refine' (AllReadyH.cons (o := _) ?hir90_7 (fun K hK => ?br90_7) AllReadyH.nil)
              case hir90_7 => (simp only [List.getElem?_toArray, List.getElem?_cons_succ, List.getElem?_cons_zero]; rfl)
              case br90_7 =>
                refine step_of_wp rfl ?_
                refine wp_store_row 40 (.tmp 8) (.tmp 14) rfl _ (bytesA (fbytes y)) rfl rfl 40 z N8_89.out oky.out.1 oky.out.2.2 oky.out.2.1 ?_
                refine hK.out _ _ ?_ (fun hHeld => ?_)
                exact below_row H89.out G8_81.out _
                have H91 := Lib.hid (below_row H89.out G8_81.out (bytesA (fbytes y)))
                have N8_91 := Lib.hid (N8_89.out.row (bytesA (fbytes y)))
                have N7_91 := Lib.hid (N7_89.out.rowFar (g' := _) (fun e => NE87.out (by first | exact e | exact e.symm)) (bytesA (fbytes y)))
                clear hK K
                (try simp only [Act.put, List.setIfInBounds_toArray, List.set_cons_zero, List.set_cons_succ])
                refine wpAnyH_done (by kernel_rfl) ?_ _
                go_wp2_with fail
                go_meet
                exact ⟨_, _, rfl, rfl, N7_91.out, N8_91.out, H91.out⟩
        case br84_4 =>
          go_simp
          refine hK.out _ _ ?_ (fun hHeld => ?_)
          · exact (H83.out.alloc H83.out.size _)
          have H92 := Lib.hid (H83.out.alloc H83.out.size (.cells z 40))
          have NE92 := Lib.hid (Nat.ne_of_lt N8_83.out.lt)
          have N8_92 := Lib.hid (N8_83.out.alloc (.cells z 40))
          have N7_92 := Lib.hid (alloc_new H83.out 40 z)
          have G7_92 := Lib.hid H83.out.size
          clear hK K
          (try simp only [Act.put, List.setIfInBounds_toArray, List.set_cons_zero, List.set_cons_succ])
          refine wpAnyH_ready (rs := [3]) (by kernel_rfl) (by simp) ?_
          refine' (AllReadyH.cons (o := _) ?hir93_3 (fun K hK => ?br93_3) AllReadyH.nil)
          case hir93_3 => (simp only [List.getElem?_toArray, List.getElem?_cons_succ, List.getElem?_cons_zero]; rfl)
          case br93_3 =>
            go_simp
            refine (CR1.out _ _ (R1.out _ H92.out) (H.old (H.old HQ.out HB.out) H92.out)).mono ?_
            rintro e w94 ⟨rfl, hb94⟩
            have H94 := Lib.hid (H92.out.trans (hb94.mono H92.out.size))
            have N8_94 := Lib.hid (N8_92.out.old hb94)
            have N7_94 := Lib.hid (N7_92.out.old hb94)
            clear hb94
            go_wp2_with fail
            refine hK.out _ _ ?_ (fun hHeld => ?_)
            exact H94.out
            clear hK K
            (try simp only [Act.put, List.setIfInBounds_toArray, List.set_cons_zero, List.set_cons_succ])
            refine wpAnyH_ready (rs := [6]) (by kernel_rfl) (by simp) ?_
            refine' (AllReadyH.cons (o := _) ?hir95_6 (fun K hK => ?br95_6) AllReadyH.nil)
            case hir95_6 => (simp only [List.getElem?_toArray, List.getElem?_cons_succ, List.getElem?_cons_zero]; rfl)
            case br95_6 =>
              refine step_of_wp rfl ?_
              refine wp_store_row 40 (.tmp 7) (.tmp 12) rfl _ (bytesA (fbytes x)) rfl rfl 40 z N7_94.out okx.out.1 okx.out.2.2 okx.out.2.1 ?_
              refine hK.out _ _ ?_ (fun hHeld => ?_)
              exact below_row H94.out G7_92.out _
              have H96 := Lib.hid (below_row H94.out G7_92.out (bytesA (fbytes x)))
              have N7_96 := Lib.hid (N7_94.out.row (bytesA (fbytes x)))
              have N8_96 := Lib.hid (N8_94.out.rowFar (g' := _) (fun e => NE92.out (by first | exact e | exact e.symm)) (bytesA (fbytes x)))
              clear hK K
              (try simp only [Act.put, List.setIfInBounds_toArray, List.set_cons_zero, List.set_cons_succ])
              refine wpAnyH_ready (rs := [7]) (by kernel_rfl) (by simp) ?_
              refine' (AllReadyH.cons (o := _) ?hir97_7 (fun K hK => ?br97_7) AllReadyH.nil)
              case hir97_7 => (simp only [List.getElem?_toArray, List.getElem?_cons_succ, List.getElem?_cons_zero]; rfl)
              case br97_7 =>
                refine step_of_wp rfl ?_
                refine wp_store_row 40 (.tmp 8) (.tmp 14) rfl _ (bytesA (fbytes y)) rfl rfl 40 z N8_96.out oky.out.1 oky.out.2.2 oky.out.2.1 ?_
                refine hK.out _ _ ?_ (fun hHeld => ?_)
                exact below_row H96.out G8_81.out _
                have H98 := Lib.hid (below_row H96.out G8_81.out (bytesA (fbytes y)))
                have N8_98 := Lib.hid (N8_96.out.row (bytesA (fbytes y)))
                have N7_98 := Lib.hid (N7_96.out.rowFar (g' := _) (fun e => NE92.out (by first | exact e | exact e.symm)) (bytesA (fbytes y)))
                clear hK K
                (try simp only [Act.put, List.setIfInBounds_toArray, List.set_cons_zero, List.set_cons_succ])
                refine wpAnyH_done (by kernel_rfl) ?_ _
                go_wp2_with fail
                go_meet
                exact ⟨_, _, rfl, rfl, N7_98.out, N8_98.out, H98.out⟩
      case br82_4 =>
        go_simp
        refine hK.out _ _ ?_ (fun hHeld => ?_)
        · exact (H81.out.alloc H81.out.size _)
        have H99 := Lib.hid (H81.out.alloc H81.out.size (.cells z 40))
        have NE99 := Lib.hid (blk_ne2 N8_81.out)
        have N8_99 := Lib.hid (N8_81.out.alloc (.cells z 40))
        have N7_99 := Lib.hid (alloc_new2 H81.out 40 z)
        have G7_99 := Lib.hid (alloc_size2 H81.out)
        clear hK K
        (try simp only [Act.put, List.setIfInBounds_toArray, List.set_cons_zero, List.set_cons_succ])
        refine wpAnyH_ready (rs := [1]) (by kernel_rfl) (by simp) ?_
        refine' (AllReadyH.cons (o := _) ?hir100_1 (fun K hK => ?br100_1) AllReadyH.nil)
        case hir100_1 => (simp only [List.getElem?_toArray, List.getElem?_cons_succ, List.getElem?_cons_zero]; rfl)
        case br100_1 =>
          go_simp
          refine (CR0.out _ _ (R0.out _ H99.out) (H.old (H.old HQ.out HB.out) H99.out)).mono ?_
          rintro e w101 ⟨rfl, hb101⟩
          have H101 := Lib.hid (H99.out.trans (hb101.mono H99.out.size))
          have N8_101 := Lib.hid (N8_99.out.old hb101)
          have N7_101 := Lib.hid (N7_99.out.old hb101)
          clear hb101
          go_wp2_with fail
          refine hK.out _ _ ?_ (fun hHeld => ?_)
          exact H101.out
          clear hK K
          (try simp only [Act.put, List.setIfInBounds_toArray, List.set_cons_zero, List.set_cons_succ])
          refine wpAnyH_ready (rs := [3]) (by kernel_rfl) (by simp) ?_
          refine' (AllReadyH.cons (o := _) ?hir102_3 (fun K hK => ?br102_3) AllReadyH.nil)
          case hir102_3 => (simp only [List.getElem?_toArray, List.getElem?_cons_succ, List.getElem?_cons_zero]; rfl)
          case br102_3 =>
            go_simp
            refine (CR1.out _ _ (R1.out _ H101.out) (H.old (H.old HQ.out HB.out) H101.out)).mono ?_
            rintro e w103 ⟨rfl, hb103⟩
            have H103 := Lib.hid (H101.out.trans (hb103.mono H101.out.size))
            have N8_103 := Lib.hid (N8_101.out.old hb103)
            have N7_103 := Lib.hid (N7_101.out.old hb103)
            clear hb103
            go_wp2_with fail
            refine hK.out _ _ ?_ (fun hHeld => ?_)
            exact H103.out
            clear hK K
            (try simp only [Act.put, List.setIfInBounds_toArray, List.set_cons_zero, List.set_cons_succ])
            refine wpAnyH_ready (rs := [6]) (by kernel_rfl) (by simp) ?_
            refine' (AllReadyH.cons (o := _) ?hir104_6 (fun K hK => ?br104_6) AllReadyH.nil)
            case hir104_6 => (simp only [List.getElem?_toArray, List.getElem?_cons_succ, List.getElem?_cons_zero]; rfl)
            case br104_6 =>
              refine step_of_wp rfl ?_
              refine wp_store_row 40 (.tmp 7) (.tmp 12) rfl _ (bytesA (fbytes x)) rfl rfl 40 z N7_103.out okx.out.1 okx.out.2.2 okx.out.2.1 ?_
              refine hK.out _ _ ?_ (fun hHeld => ?_)
              exact below_row H103.out G7_99.out _
              have H105 := Lib.hid (below_row H103.out G7_99.out (bytesA (fbytes x)))
              have N7_105 := Lib.hid (N7_103.out.row (bytesA (fbytes x)))
              have N8_105 := Lib.hid (N8_103.out.rowFar (g' := _) (fun e => NE99.out (by first | exact e | exact e.symm)) (bytesA (fbytes x)))
              clear hK K
              (try simp only [Act.put, List.setIfInBounds_toArray, List.set_cons_zero, List.set_cons_succ])
              refine wpAnyH_ready (rs := [7]) (by kernel_rfl) (by simp) ?_
              refine' (AllReadyH.cons (o := _) ?hir106_7 (fun K hK => ?br106_7) AllReadyH.nil)
              case hir106_7 => (simp only [List.getElem?_toArray, List.getElem?_cons_succ, List.getElem?_cons_zero]; rfl)
              case br106_7 =>
                refine step_of_wp rfl ?_
                refine wp_store_row 40 (.tmp 8) (.tmp 14) rfl _ (bytesA (fbytes y)) rfl rfl 40 z N8_105.out oky.out.1 oky.out.2.2 oky.out.2.1 ?_
                refine hK.out _ _ ?_ (fun hHeld => ?_)
                exact below_row H105.out G8_81.out _
                have H107 := Lib.hid (below_row H105.out G8_81.out (bytesA (fbytes y)))
                have N8_107 := Lib.hid (N8_105.out.row (bytesA (fbytes y)))
                have N7_107 := Lib.hid (N7_105.out.rowFar (g' := _) (fun e => NE99.out (by first | exact e | exact e.symm)) (bytesA (fbytes y)))
                clear hK K
                (try simp only [Act.put, List.setIfInBounds_toArray, List.set_cons_zero, List.set_cons_succ])
                refine wpAnyH_done (by kernel_rfl) ?_ _
                go_wp2_with fail
                go_meet
                exact ⟨_, _, rfl, rfl, N7_107.out, N8_107.out, H107.out⟩
  case rest =>
    obtain ⟨g7, g8, rfl, rfl, x7, x8, hb2⟩ := hcut
    have hsl7 := slice32 g7
    have hbm := CM.out g7 _ (HRB.out _ _ _ x7)
    have CM7 := Lib.hid hbm
    have X7 := Lib.hid x7
    have X8 := Lib.hid x8
    have X0 := Lib.hid (X0.out.old hb2)
    have X6 := Lib.hid (X6.out.old hb2)
    have E5 := Lib.hid (E5.out.old hb2)
    have HB := Lib.hid (HB.out.trans (hb2.mono HB.out.size))
    clear x7 x8 hb2 hbm
    go_upto_region 6 with fail
    refine CM7.out.mono ?_
    rintro e w5 ⟨rfl, hb5⟩
    have X7 := Lib.hid (X7.out.old hb5)
    have X8 := Lib.hid (X8.out.old hb5)
    have X0 := Lib.hid (X0.out.old hb5)
    have X6 := Lib.hid (X6.out.old hb5)
    have E5 := Lib.hid (E5.out.old hb5)
    have HB := Lib.hid (HB.out.trans (hb5.mono HB.out.size))
    clear hb5
    go_upto_region 6 with fail
    (try simp only [Act.put, List.setIfInBounds_toArray, List.set_cons_zero, List.set_cons_succ])
    refine wp_region_held_drew (S := fun V => Below w5.heap.size w5 V) (by kernel_rfl) (Below.refl _ _).drew (fun hHeld => ?_)
    have HB0 := Lib.hid ((Below.refl w5.heap.size w5).drew)
    generalize w5.drew = V0 at *
    refine' wpAnyH_take (i := 0) (oi := _) (v := .agg cb) ?hit108 ?hst108 ?hft108 ?hrt108 ?hQt108 ?hyt108 ?hSt108 ?_
    case hit108 => (simp only [List.getElem?_toArray, List.getElem?_cons_succ, List.getElem?_cons_zero]; rfl)
    case hst108 => kernel_rfl
    case hft108 => kernel_rfl
    case hrt108 => kernel_rfl
    case hQt108 => exact fun _ _ _ h => h
    case hSt108 => assumption
    case hyt108 =>
      refine Or.inl ⟨by rfl, ?_⟩
      intro W hS
      exact quiet_load_row 30 (.tmp 5) _ rfl 30 cb _ (E5.out.old hS) Tryd.underlying30 rfl OB.out.1 rfl
    (try simp only [Act.put, List.setIfInBounds_toArray, List.set_cons_zero, List.set_cons_succ])
    refine' wpAnyH_take (i := 1) (oi := _) (v := .agg ca0) ?hit109 ?hst109 ?hft109 ?hrt109 ?hQt109 ?hyt109 ?hSt109 ?_
    case hit109 => (simp only [List.getElem?_toArray, List.getElem?_cons_succ, List.getElem?_cons_zero]; rfl)
    case hst109 => kernel_rfl
    case hft109 => kernel_rfl
    case hrt109 => kernel_rfl
    case hQt109 => exact fun _ _ _ h => h
    case hSt109 => assumption
    case hyt109 =>
      refine Or.inl ⟨by rfl, ?_⟩
      intro W hS
      exact quiet_load_row 40 (.tmp 2) _ rfl 40 ca0 _ (X0.out.old hS) Tryd.underlying40 rfl hia0.out rfl
    (try simp only [Act.put, List.setIfInBounds_toArray, List.set_cons_zero, List.set_cons_succ])
    refine' wpAnyH_take (i := 3) (oi := _) (v := .agg cb) ?hit110 ?hst110 ?hft110 ?hrt110 ?hQt110 ?hyt110 ?hSt110 ?_
    case hit110 => (simp only [List.getElem?_toArray, List.getElem?_cons_succ, List.getElem?_cons_zero]; rfl)
    case hst110 => kernel_rfl
    case hft110 => kernel_rfl
    case hrt110 => kernel_rfl
    case hQt110 => exact fun _ _ _ h => h
    case hSt110 => assumption
    case hyt110 =>
      refine Or.inl ⟨by rfl, ?_⟩
      intro W hS
      exact quiet_load_row 30 (.tmp 5) _ rfl 30 cb _ (E5.out.old hS) Tryd.underlying30 rfl OB.out.1 rfl
    (try simp only [Act.put, List.setIfInBounds_toArray, List.set_cons_zero, List.set_cons_succ])
    refine' wpAnyH_take (i := 4) (oi := _) (v := .agg (bytesA (fbytes x))) ?hit111 ?hst111 ?hft111 ?hrt111 ?hQt111 ?hyt111 ?hSt111 ?_
    case hit111 => (simp only [List.getElem?_toArray, List.getElem?_cons_succ, List.getElem?_cons_zero]; rfl)
    case hst111 => kernel_rfl
    case hft111 => kernel_rfl
    case hrt111 => kernel_rfl
    case hQt111 => exact fun _ _ _ h => h
    case hSt111 => assumption
    case hyt111 =>
      refine Or.inl ⟨by rfl, ?_⟩
      intro W hS
      exact quiet_load_row 40 (.tmp 7) _ rfl 40 (bytesA (fbytes x)) _ (X7.out.old hS) Tryd.underlying40 rfl okx.out.1 rfl
    (try simp only [Act.put, List.setIfInBounds_toArray, List.set_cons_zero, List.set_cons_succ])
    refine wpAnyH_ready (rs := [2]) (by kernel_rfl) (by simp) ?_
    refine' (AllReadyH.cons (o := _) ?hir112_2 (fun K hK => ?br112_2) AllReadyH.nil)
    case hir112_2 => (simp only [List.getElem?_toArray, List.getElem?_cons_succ, List.getElem?_cons_zero]; rfl)
    case br112_2 =>
      go_simp
      refine (CT0.out _ PB.out (H.old (H.old HQ.out HB.out) HB0.out)).mono ?_
      rintro e w113 ⟨c20, rfl, hp113, hb113⟩
      have P20 := Lib.hid hp113
      have H113 := Lib.hid (HB0.out.trans (hb113.mono HB0.out.size))
      clear hp113 hb113
      go_wp2_with fail
      refine hK.out _ _ ?_ (fun hHeld => ?_)
      exact H113.out
      clear hK K
      (try simp only [Act.put, List.setIfInBounds_toArray, List.set_cons_zero, List.set_cons_succ])
      refine wpAnyH_ready (rs := [5]) (by kernel_rfl) (by simp) ?_
      refine' (AllReadyH.cons (o := _) ?hir114_5 (fun K hK => ?br114_5) AllReadyH.nil)
      case hir114_5 => (simp only [List.getElem?_toArray, List.getElem?_cons_succ, List.getElem?_cons_zero]; rfl)
      case br114_5 =>
        go_simp
        refine (CTx.out _ PB.out (H.old (H.old HQ.out HB.out) H113.out)).mono ?_
        rintro e w115 ⟨c23, rfl, hp115, hb115⟩
        have P23 := Lib.hid hp115
        have H115 := Lib.hid (H113.out.trans (hb115.mono H113.out.size))
        clear hp115 hb115
        go_wp2_with fail
        refine hK.out _ _ ?_ (fun hHeld => ?_)
        exact H115.out
        clear hK K
        (try simp only [Act.put, List.setIfInBounds_toArray, List.set_cons_zero, List.set_cons_succ])
        refine wpAnyH_ready (rs := [6]) (by kernel_rfl) (by simp) ?_
        refine' (AllReadyH.cons (o := _) ?hir116_6 (fun K hK => ?br116_6) AllReadyH.nil)
        case hir116_6 => (simp only [List.getElem?_toArray, List.getElem?_cons_succ, List.getElem?_cons_zero]; rfl)
        case br116_6 =>
          go_simp
          refine (sameT H P1.out _ P20.out P23.out (H.old (H.old HQ.out HB.out) H115.out)).mono ?_
          rintro e w117 ⟨rfl, hb117⟩
          have H117 := Lib.hid (H115.out.trans (hb117.mono H115.out.size))
          clear hb117
          go_wp2_with fail
          refine hK.out _ _ ?_ (fun hHeld => ?_)
          exact H117.out
          clear hK K
          (try simp only [Act.put, List.setIfInBounds_toArray, List.set_cons_zero, List.set_cons_succ])
          refine' wpAnyH_take (i := 7) (oi := _) (v := _) ?hit118 ?hst118 ?hft118 ?hrt118 ?hQt118 ?hyt118 ?hSt118 ?_
          case hit118 => (simp only [List.getElem?_toArray, List.getElem?_cons_succ, List.getElem?_cons_zero]; rfl)
          case hst118 => kernel_rfl
          case hft118 => kernel_rfl
          case hrt118 => kernel_rfl
          case hQt118 => exact fun _ _ _ h => h
          case hSt118 => assumption
          case hyt118 =>
            refine Or.inl ⟨by rfl, ?_⟩
            intro w hSw
            (try dsimp only at hSw)
            go_simp
            all_goals (with_reducible rfl)
          (try simp only [Act.put, List.setIfInBounds_toArray, List.set_cons_zero, List.set_cons_succ])
          refine' wpAnyH_take (i := 8) (oi := _) (v := .agg cb) ?hit119 ?hst119 ?hft119 ?hrt119 ?hQt119 ?hyt119 ?hSt119 ?_
          case hit119 => (simp only [List.getElem?_toArray, List.getElem?_cons_succ, List.getElem?_cons_zero]; rfl)
          case hst119 => kernel_rfl
          case hft119 => kernel_rfl
          case hrt119 => kernel_rfl
          case hQt119 => exact fun _ _ _ h => h
          case hSt119 => assumption
          case hyt119 =>
            refine Or.inl ⟨by rfl, ?_⟩
            intro W hS
            exact quiet_load_row 30 (.tmp 5) _ rfl 30 cb _ (E5.out.old hS) Tryd.underlying30 rfl OB.out.1 rfl
          (try simp only [Act.put, List.setIfInBounds_toArray, List.set_cons_zero, List.set_cons_succ])
          refine' wpAnyH_take (i := 9) (oi := _) (v := .agg co) ?hit120 ?hst120 ?hft120 ?hrt120 ?hQt120 ?hyt120 ?hSt120 ?_
          case hit120 => (simp only [List.getElem?_toArray, List.getElem?_cons_succ, List.getElem?_cons_zero]; rfl)
          case hst120 => kernel_rfl
          case hft120 => kernel_rfl
          case hrt120 => kernel_rfl
          case hQt120 => exact fun _ _ _ h => h
          case hSt120 => assumption
          case hyt120 =>
            refine Or.inl ⟨by rfl, ?_⟩
            intro W hS
            exact quiet_load_row 40 (.tmp 6) _ rfl 40 co _ (X6.out.old hS) Tryd.underlying40 rfl oko.out.1 rfl
          (try simp only [Act.put, List.setIfInBounds_toArray, List.set_cons_zero, List.set_cons_succ])
          refine' wpAnyH_take (i := 10) (oi := _) (v := .agg (bytesA (fbytes x))) ?hit121 ?hst121 ?hft121 ?hrt121 ?hQt121 ?hyt121 ?hSt121 ?_
          case hit121 => (simp only [List.getElem?_toArray, List.getElem?_cons_succ, List.getElem?_cons_zero]; rfl)
          case hst121 => kernel_rfl
          case hft121 => kernel_rfl
          case hrt121 => kernel_rfl
          case hQt121 => exact fun _ _ _ h => h
          case hSt121 => assumption
          case hyt121 =>
            refine Or.inl ⟨by rfl, ?_⟩
            intro W hS
            exact quiet_load_row 40 (.tmp 7) _ rfl 40 (bytesA (fbytes x)) _ (X7.out.old hS) Tryd.underlying40 rfl okx.out.1 rfl
          (try simp only [Act.put, List.setIfInBounds_toArray, List.set_cons_zero, List.set_cons_succ])
          refine' wpAnyH_take (i := 11) (oi := _) (v := .agg (bytesA (fbytes y))) ?hit122 ?hst122 ?hft122 ?hrt122 ?hQt122 ?hyt122 ?hSt122 ?_
          case hit122 => (simp only [List.getElem?_toArray, List.getElem?_cons_succ, List.getElem?_cons_zero]; rfl)
          case hst122 => kernel_rfl
          case hft122 => kernel_rfl
          case hrt122 => kernel_rfl
          case hQt122 => exact fun _ _ _ h => h
          case hSt122 => assumption
          case hyt122 =>
            refine Or.inl ⟨by rfl, ?_⟩
            intro W hS
            exact quiet_load_row 40 (.tmp 8) _ rfl 40 (bytesA (fbytes y)) _ (X8.out.old hS) Tryd.underlying40 rfl oky.out.1 rfl
          (try simp only [Act.put, List.setIfInBounds_toArray, List.set_cons_zero, List.set_cons_succ])
          refine' wpAnyH_take (i := 14) (oi := _) (v := .agg cb) ?hit123 ?hst123 ?hft123 ?hrt123 ?hQt123 ?hyt123 ?hSt123 ?_
          case hit123 => (simp only [List.getElem?_toArray, List.getElem?_cons_succ, List.getElem?_cons_zero]; rfl)
          case hst123 => kernel_rfl
          case hft123 => kernel_rfl
          case hrt123 => kernel_rfl
          case hQt123 => exact fun _ _ _ h => h
          case hSt123 => assumption
          case hyt123 =>
            refine Or.inl ⟨by rfl, ?_⟩
            intro W hS
            exact quiet_load_row 30 (.tmp 5) _ rfl 30 cb _ (E5.out.old hS) Tryd.underlying30 rfl OB.out.1 rfl
          (try simp only [Act.put, List.setIfInBounds_toArray, List.set_cons_zero, List.set_cons_succ])
          refine' wpAnyH_take (i := 15) (oi := _) (v := .agg (bytesA (fbytes x))) ?hit124 ?hst124 ?hft124 ?hrt124 ?hQt124 ?hyt124 ?hSt124 ?_
          case hit124 => (simp only [List.getElem?_toArray, List.getElem?_cons_succ, List.getElem?_cons_zero]; rfl)
          case hst124 => kernel_rfl
          case hft124 => kernel_rfl
          case hrt124 => kernel_rfl
          case hQt124 => exact fun _ _ _ h => h
          case hSt124 => assumption
          case hyt124 =>
            refine Or.inl ⟨by rfl, ?_⟩
            intro W hS
            exact quiet_load_row 40 (.tmp 7) _ rfl 40 (bytesA (fbytes x)) _ (X7.out.old hS) Tryd.underlying40 rfl okx.out.1 rfl
          (try simp only [Act.put, List.setIfInBounds_toArray, List.set_cons_zero, List.set_cons_succ])
          refine' wpAnyH_take (i := 17) (oi := _) (v := .agg cb) ?hit125 ?hst125 ?hft125 ?hrt125 ?hQt125 ?hyt125 ?hSt125 ?_
          case hit125 => (simp only [List.getElem?_toArray, List.getElem?_cons_succ, List.getElem?_cons_zero]; rfl)
          case hst125 => kernel_rfl
          case hft125 => kernel_rfl
          case hrt125 => kernel_rfl
          case hQt125 => exact fun _ _ _ h => h
          case hSt125 => assumption
          case hyt125 =>
            refine Or.inl ⟨by rfl, ?_⟩
            intro W hS
            exact quiet_load_row 30 (.tmp 5) _ rfl 30 cb _ (E5.out.old hS) Tryd.underlying30 rfl OB.out.1 rfl
          (try simp only [Act.put, List.setIfInBounds_toArray, List.set_cons_zero, List.set_cons_succ])
          refine' wpAnyH_take (i := 18) (oi := _) (v := .agg (bytesA (fbytes y))) ?hit126 ?hst126 ?hft126 ?hrt126 ?hQt126 ?hyt126 ?hSt126 ?_
          case hit126 => (simp only [List.getElem?_toArray, List.getElem?_cons_succ, List.getElem?_cons_zero]; rfl)
          case hst126 => kernel_rfl
          case hft126 => kernel_rfl
          case hrt126 => kernel_rfl
          case hQt126 => exact fun _ _ _ h => h
          case hSt126 => assumption
          case hyt126 =>
            refine Or.inl ⟨by rfl, ?_⟩
            intro W hS
            exact quiet_load_row 40 (.tmp 8) _ rfl 40 (bytesA (fbytes y)) _ (X8.out.old hS) Tryd.underlying40 rfl oky.out.1 rfl
          (try simp only [Act.put, List.setIfInBounds_toArray, List.set_cons_zero, List.set_cons_succ])
          refine wpAnyH_ready (rs := [12]) (by kernel_rfl) (by simp) ?_
          refine' (AllReadyH.cons (o := _) ?hir127_12 (fun K hK => ?br127_12) AllReadyH.nil)
          case hir127_12 => (simp only [List.getElem?_toArray, List.getElem?_cons_succ, List.getElem?_cons_zero]; rfl)
          case br127_12 =>
            go_simp
            refine (CMA.out _ (H.old (H.old HQ.out HB.out) H117.out)).mono ?_
            rintro e w128 ⟨rfl, hb128⟩
            have H128 := Lib.hid (H117.out.trans (hb128.mono H117.out.size))
            clear hb128
            go_wp2_with fail
            refine hK.out _ _ ?_ (fun hHeld => ?_)
            exact H128.out
            clear hK K
            (try simp only [Act.put, List.setIfInBounds_toArray, List.set_cons_zero, List.set_cons_succ])
            refine wpAnyH_ready (rs := [13]) (by kernel_rfl) (by simp) ?_
            refine' (AllReadyH.cons (o := _) ?hir129_13 (fun K hK => ?br129_13) AllReadyH.nil)
            case hir129_13 => (simp only [List.getElem?_toArray, List.getElem?_cons_succ, List.getElem?_cons_zero]; rfl)
            case br129_13 =>
              go_simp
              refine (CTs.out _ PB.out (H.old (H.old HQ.out HB.out) H128.out)).mono ?_
              rintro e w130 ⟨c31, rfl, hp130, hb130⟩
              have P31 := Lib.hid hp130
              have H130 := Lib.hid (H128.out.trans (hb130.mono H128.out.size))
              clear hp130 hb130
              go_wp2_with fail
              refine hK.out _ _ ?_ (fun hHeld => ?_)
              exact H130.out
              clear hK K
              (try simp only [Act.put, List.setIfInBounds_toArray, List.set_cons_zero, List.set_cons_succ])
              refine wpAnyH_ready (rs := [16]) (by kernel_rfl) (by simp) ?_
              refine' (AllReadyH.cons (o := _) ?hir131_16 (fun K hK => ?br131_16) AllReadyH.nil)
              case hir131_16 => (simp only [List.getElem?_toArray, List.getElem?_cons_succ, List.getElem?_cons_zero]; rfl)
              case br131_16 =>
                go_simp
                refine (CTx.out _ PB.out (H.old (H.old HQ.out HB.out) H130.out)).mono ?_
                rintro e w132 ⟨c34, rfl, hp132, hb132⟩
                have P34 := Lib.hid hp132
                have H132 := Lib.hid (H130.out.trans (hb132.mono H130.out.size))
                clear hp132 hb132
                go_wp2_with fail
                refine hK.out _ _ ?_ (fun hHeld => ?_)
                exact H132.out
                clear hK K
                (try simp only [Act.put, List.setIfInBounds_toArray, List.set_cons_zero, List.set_cons_succ])
                refine wpAnyH_ready (rs := [19]) (by kernel_rfl) (by simp) ?_
                refine' (AllReadyH.cons (o := _) ?hir133_19 (fun K hK => ?br133_19) AllReadyH.nil)
                case hir133_19 => (simp only [List.getElem?_toArray, List.getElem?_cons_succ, List.getElem?_cons_zero]; rfl)
                case br133_19 =>
                  go_simp
                  refine (CTy.out _ PB.out (H.old (H.old HQ.out HB.out) H132.out)).mono ?_
                  rintro e w134 ⟨c37, rfl, hp134, hb134⟩
                  have P37 := Lib.hid hp134
                  have H134 := Lib.hid (H132.out.trans (hb134.mono H132.out.size))
                  clear hp134 hb134
                  go_wp2_with fail
                  refine hK.out _ _ ?_ (fun hHeld => ?_)
                  exact H134.out
                  clear hK K
                  (try simp only [Act.put, List.setIfInBounds_toArray, List.set_cons_zero, List.set_cons_succ])
                  refine wpAnyH_ready (rs := [20]) (by kernel_rfl) (by simp) ?_
                  refine' (AllReadyH.cons (o := _) ?hir135_20 (fun K hK => ?br135_20) AllReadyH.nil)
                  case hir135_20 => (simp only [List.getElem?_toArray, List.getElem?_cons_succ, List.getElem?_cons_zero]; rfl)
                  case br135_20 =>
                    go_simp
                    refine (H.add _ P34.out P37.out (H.old (H.old HQ.out HB.out) H134.out)).mono ?_
                    rintro e w136 ⟨c38, rfl, hp136, hb136⟩
                    have P38 := Lib.hid hp136
                    have H136 := Lib.hid (H134.out.trans (hb136.mono H134.out.size))
                    clear hp136 hb136
                    go_wp2_with fail
                    refine hK.out _ _ ?_ (fun hHeld => ?_)
                    exact H136.out
                    clear hK K
                    (try simp only [Act.put, List.setIfInBounds_toArray, List.set_cons_zero, List.set_cons_succ])
                    refine wpAnyH_ready (rs := [21]) (by kernel_rfl) (by simp) ?_
                    refine' (AllReadyH.cons (o := _) ?hir137_21 (fun K hK => ?br137_21) AllReadyH.nil)
                    case hir137_21 => (simp only [List.getElem?_toArray, List.getElem?_cons_succ, List.getElem?_cons_zero]; rfl)
                    case br137_21 =>
                      go_simp
                      refine (sameT H P2.out _ P31.out P38.out (H.old (H.old HQ.out HB.out) H136.out)).mono ?_
                      rintro e w138 ⟨rfl, hb138⟩
                      have H138 := Lib.hid (H136.out.trans (hb138.mono H136.out.size))
                      clear hb138
                      go_wp2_with fail
                      refine hK.out _ _ ?_ (fun hHeld => ?_)
                      exact H138.out
                      clear hK K
                      (try simp only [Act.put, List.setIfInBounds_toArray, List.set_cons_zero, List.set_cons_succ])
                      refine' wpAnyH_take (i := 22) (oi := _) (v := _) ?hit139 ?hst139 ?hft139 ?hrt139 ?hQt139 ?hyt139 ?hSt139 ?_
                      case hit139 => (simp only [List.getElem?_toArray, List.getElem?_cons_succ, List.getElem?_cons_zero]; rfl)
                      case hst139 => kernel_rfl
                      case hft139 => kernel_rfl
                      case hrt139 => kernel_rfl
                      case hQt139 => exact fun _ _ _ h => h
                      case hSt139 => assumption
                      case hyt139 =>
                        refine Or.inl ⟨by rfl, ?_⟩
                        intro w hSw
                        (try dsimp only at hSw)
                        go_simp
                        all_goals (with_reducible rfl)
                      (try simp only [Act.put, List.setIfInBounds_toArray, List.set_cons_zero, List.set_cons_succ])
                      refine' wpAnyH_take (i := 23) (oi := _) (v := _) ?hit140 ?hst140 ?hft140 ?hrt140 ?hQt140 ?hyt140 ?hSt140 ?_
                      case hit140 => (simp only [List.getElem?_toArray, List.getElem?_cons_succ, List.getElem?_cons_zero]; rfl)
                      case hst140 => kernel_rfl
                      case hft140 => kernel_rfl
                      case hrt140 => kernel_rfl
                      case hQt140 => exact fun _ _ _ h => h
                      case hSt140 => assumption
                      case hyt140 =>
                        refine Or.inl ⟨by rfl, ?_⟩
                        intro w hSw
                        (try dsimp only at hSw)
                        go_simp
                        all_goals (with_reducible rfl)
                      (try simp only [Act.put, List.setIfInBounds_toArray, List.set_cons_zero, List.set_cons_succ])
                      refine wpAnyH_ready (rs := [24]) (by kernel_rfl) (by simp) ?_
                      refine' (AllReadyH.cons (o := _) ?hir141_24 (fun K hK => ?br141_24) AllReadyH.nil)
                      case hir141_24 => (simp only [List.getElem?_toArray, List.getElem?_cons_succ, List.getElem?_cons_zero]; rfl)
                      case br141_24 =>
                        go_simp
                        refine (awake7_any H _ (H.old (H.old HQ.out HB.out) H138.out)).mono ?_
                        rintro e w142 ⟨rfl, hb142⟩
                        have H142 := Lib.hid (H138.out.trans (hb142.mono H138.out.size))
                        clear hb142
                        go_wp2_with fail
                        refine hK.out _ _ ?_ (fun hHeld => ?_)
                        exact H142.out
                        clear hK K
                        (try simp only [Act.put, List.setIfInBounds_toArray, List.set_cons_zero, List.set_cons_succ])
                        refine' wpAnyH_take (i := 25) (oi := _) (v := _) ?hit143 ?hst143 ?hft143 ?hrt143 ?hQt143 ?hyt143 ?hSt143 ?_
                        case hit143 => (simp only [List.getElem?_toArray, List.getElem?_cons_succ, List.getElem?_cons_zero]; rfl)
                        case hst143 => kernel_rfl
                        case hft143 => kernel_rfl
                        case hrt143 => kernel_rfl
                        case hQt143 => exact fun _ _ _ h => h
                        case hSt143 => assumption
                        case hyt143 =>
                          refine Or.inl ⟨by rfl, ?_⟩
                          intro w hSw
                          (try dsimp only at hSw)
                          go_simp
                          all_goals (with_reducible rfl)
                        (try simp only [Act.put, List.setIfInBounds_toArray, List.set_cons_zero, List.set_cons_succ])
                        refine' wpAnyH_take (i := 26) (oi := _) (v := _) ?hit144 ?hst144 ?hft144 ?hrt144 ?hQt144 ?hyt144 ?hSt144 ?_
                        case hit144 => (simp only [List.getElem?_toArray, List.getElem?_cons_succ, List.getElem?_cons_zero]; rfl)
                        case hst144 => kernel_rfl
                        case hft144 => kernel_rfl
                        case hrt144 => kernel_rfl
                        case hQt144 => exact fun _ _ _ h => h
                        case hSt144 => assumption
                        case hyt144 =>
                          refine Or.inl ⟨by rfl, ?_⟩
                          intro w hSw
                          (try dsimp only at hSw)
                          go_simp
                          all_goals (with_reducible rfl)
                        (try simp only [Act.put, List.setIfInBounds_toArray, List.set_cons_zero, List.set_cons_succ])
                        refine wpAnyH_done (by kernel_rfl) ?_ _
                        have hbe := Lib.hid (HB.out.trans (H142.out.mono HB.out.size))
                        clear hHeld
                        go_wp2_with fail
                        go_ret
                        exact ⟨rfl, hbe.out⟩
end Go.Proofs.YtjiadbaaggifpaaDoor
