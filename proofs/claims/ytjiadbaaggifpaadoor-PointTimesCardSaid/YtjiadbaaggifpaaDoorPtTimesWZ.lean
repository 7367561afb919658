/-
  The walk of the law PointTimes. Condition: the program's points are as they must be.
-/
import Derived.Test.YtjiadbaaggifpaaDoorM5
set_option linter.unusedVariables false
set_option linter.unusedSimpArgs false
namespace Go.Proofs.YtjiadbaaggifpaaDoor
open Go Go.Proofs Go.RowKit F5


set_option maxHeartbeats 32000000 in
set_option maxRecDepth 100000 in
theorem ptimes_walk {Q : World → Prop} {PP : Pt → Array Value → Prop} {zv : Array Value} (H : PtOk Q PP zv) (v0 v1 : Nat) (hv0 : v0 < 2 ^ 256) (hv1 : v1 < 2 ^ 256) (w : World) (hQ : Q w) :
    Calls Tryd.prog 5 #[.agg (bytesA (fbytes v0)), .agg (bytesA (fbytes v1))] w fun e w' => e = .returned (.bool true) ∧ Below w.heap.size w w' := by
  have HQ := Lib.hid hQ
  obtain ⟨z, hz⟩ : ∃ z, Hid (z = pV 0 0 0) := ⟨_, Lib.hid rfl⟩
  have hz0 : ∀ W, (zeroValue 37).run Tryd.prog W = .ok (.agg z) W := by rw [hz.out]; exact zeroP
  have zs : Hid (z.size = 48) := Lib.hid (by rw [hz.out]; exact pV_size _ _ _)
  have hzp0 : ∀ W : World, (zeroValue 30).run Tryd.prog W = .ok (.agg zv) W := H.zero_run
  obtain ⟨ca0, hca0⟩ : ∃ x, Hid (x = bytesA (fbytes v0)) := ⟨_, Lib.hid rfl⟩
  have hia0 : Hid ((Tryd.prog.info? 40).map (·.size) = some ca0.size) := by rw [hca0.out]; exact Lib.hid (fbytes_info v0)
  obtain ⟨ca1, hca1⟩ : ∃ x, Hid (x = bytesA (fbytes v1)) := ⟨_, Lib.hid rfl⟩
  have hia1 : Hid ((Tryd.prog.info? 40).map (·.size) = some ca1.size) := by rw [hca1.out]; exact Lib.hid (fbytes_info v1)
  have CT0 : Hid (∀ W, Q W → Calls Tryd.prog 14 #[.agg (bytesA (fbytes v0))] W fun e w' => ∃ cu cf, e = .returned (.tuple #[.agg cu, .agg cf, .bool (decide (okP v0))]) ∧ (∀ h : okP v0, PP (pget v0 h) cu) ∧ (∀ h : okP v0, PtAt (pget v0 h) cf) ∧ PSh zv cu ∧ PShape cf ∧ Below W.heap.size W w') := Lib.hid fun W hW => two_pt H v0 hv0 W hW
  obtain ⟨b0, hb0⟩ : ∃ b, Hid (b = decide (okP v0)) := ⟨_, Lib.hid rfl⟩
  rw [← hb0.out] at CT0
  rw [← hca0.out] at CT0
  have rd : ∀ (g : Nat) (V V' : World), Blk V g 40 (bytesA (fbytes v1)) → Below V.heap.size V V' → Reads V' V'.heap.size 1 (some ⟨g, 0, none⟩) 32 (Lib.byteCells (fbytes v1)) := fun g V V' h hb => by
    have := reads_blk (h.old hb)
    rwa [fbytes_length] at this
  have CTM : Hid (∀ {p : Pt} {a : Array Value} (V : World), PP p a → Q V → Calls Tryd.prog 21 #[.agg a, .agg ca1] V fun e w' => ∃ c, e = .returned (.agg c) ∧ PP (pmul v1 p) c ∧ Below V.heap.size V w') := Lib.hid fun V h hq => by
    rw [hca1.out]; exact H.times v1 V hv1 h hq
  have CRT : Hid (∀ {p : Pt} {a : Array Value} (g : Nat) (V : World), PtAt p a → Reads V V.heap.size 1 (some ⟨g, 0, none⟩) 32 (Lib.byteCells (fbytes v1)) → Calls Tryd.prog 23 #[.agg a, .slice (some ⟨g, 0, none⟩) 32 32] V fun e w' => ∃ c, e = .returned (.agg c) ∧ PtAt (pmul v1 p) c ∧ Below V.heap.size V w') := Lib.hid fun g V h hr => refTimes_any h v1 hv1 _ _ V hr
  rw [← hca0.out, ← hca1.out]
  obtain ⟨x0, x1, xb⟩ := (show Blk ((w.alloc (.cells ca0 40)).alloc (.cells ca1 40)) (w.heap.size) 40 ca0 ∧ Blk ((w.alloc (.cells ca0 40)).alloc (.cells ca1 40)) (w.heap.size + 1) 40 ca1 ∧ Below w.heap.size w ((w.alloc (.cells ca0 40)).alloc (.cells ca1 40)) by
    have h0 := (Blk.new w 40 ca0).alloc (.cells ca1 40)
    have h1 := Blk.new (w.alloc (.cells ca0 40)) 40 ca1
    rw [show (w.alloc (.cells ca0 40)).heap.size = w.heap.size + 1 by simp] at h1
    exact ⟨h0, h1, (((Below.refl w.heap.size w).alloc (Nat.le_refl _) _).alloc (by simp) _)⟩)
  clear hQ hz
  go_enter Tryd.func5, Tryd.ntmps5
  go_upto_region 1 with fail
  generalize (w.alloc (.cells ca0 40)).alloc (.cells ca1 40) = W at *
  have X0 := Lib.hid x0
  have X1 := Lib.hid x1
  have HB := Lib.hid xb
  clear x0 x1 xb
  go_upto_region 2 with (first | (refine wpList_load_row rfl 40 (.tmp 2) rfl w.heap.size rfl 40 ca0 (0, 0) _ X0.out Tryd.underlying40 rfl hia0.out ?_))
  refine (CT0.out _ (H.old HQ.out HB.out)).mono ?_
  rintro e w10 ⟨cu0, cf0, rfl, hu0, hf0, hsu0, hsf0, hbb⟩
  obtain ⟨r1, r2, r3, r5, r4⟩ := pt_row w10 zv z cu0 cf0
  have hbc := hbb.trans (r4.mono hbb.size)
  have ou0 := Lib.hid hsu0
  have of0 := Lib.hid (show _ ∧ _ ∧ z.size = cf0.size from ⟨hsf0.1, hsf0.2.1, by rw [zs.out, hsf0.2.2]⟩)
  have HU0 := Lib.hid hu0
  have HF0 := Lib.hid hf0
  have X0 := Lib.hid (X0.out.old hbc)
  have X1 := Lib.hid (X1.out.old hbc)
  have E0 := Lib.hid r3
  have F0 := Lib.hid r5
  have HB := Lib.hid (HB.out.trans (hbc.mono HB.out.size))
  have R1 := Lib.hid r1
  have R2 := Lib.hid r2
  clear hbb r1 r2 r3 r4 r5 hbc hu0 hf0 hsu0 hsf0
  go_upto_region 2 with (first | (refine wpList_store_row rfl 30 (.tmp 5) (.tmp 11) rfl w10.heap.size cu0 rfl rfl 30 _ R1.out ou0.out.1 ou0.out.2.2 ou0.out.2.1 ?_) |
    (refine wpList_store_row rfl 37 (.tmp 6) (.tmp 12) rfl (w10.heap.size + 1) cf0 rfl rfl 37 z R2.out of0.out.1 of0.out.2.2 of0.out.2.1 ?_))
  clear R1 R2
  generalize (((w10.alloc (.cells zv 30)).alloc (.cells z 37)).setRow w10.heap.size cu0).setRow (w10.heap.size + 1) cf0 = W0 at *
  generalize w10.heap.size + 1 = gf0 at *
  generalize w10.heap.size = ge0 at *
  have hsl := slice32 (w.heap.size + 1)
  have RD : Hid (∀ V, Below W0.heap.size W0 V → Reads V V.heap.size 1 (some ⟨w.heap.size + 1, 0, none⟩) 32 (Lib.byteCells (fbytes v1))) := Lib.hid fun V hV => rd _ _ _ (by rw [← hca1.out]; exact X1.out) hV
  clear rd
  cases hc0 : b0
  · clear hc0
    go_upto_region 3 with fail
    (try simp only [Act.put, List.setIfInBounds_toArray, List.set_cons_zero, List.set_cons_succ])
    refine wp_region_held_drew (S := fun V => Below W0.heap.size W0 V) (by kernel_rfl) (Below.refl _ _).drew (fun hHeld => ?_)
    have HB0 := Lib.hid ((Below.refl W0.heap.size W0).drew)
    generalize W0.drew = V0 at *
    refine' wpAnyH_take (i := 1) (oi := _) (v := .agg ca1) ?hit101 ?hst101 ?hft101 ?hrt101 ?hQt101 ?hyt101 ?hSt101 ?_
    case hit101 => (simp only [List.getElem?_toArray, List.getElem?_cons_succ, List.getElem?_cons_zero]; rfl)
    case hst101 => kernel_rfl
    case hft101 => kernel_rfl
    case hrt101 => kernel_rfl
    case hQt101 => exact fun _ _ _ h => h
    case hSt101 => assumption
    case hyt101 =>
      refine Or.inl ⟨by rfl, ?_⟩
      intro W hS
      exact quiet_load_row 40 (.tmp 3) _ rfl 40 ca1 _ (X1.out.old hS) Tryd.underlying40 rfl hia1.out rfl
    (try simp only [Act.put, List.setIfInBounds_toArray, List.set_cons_zero, List.set_cons_succ])
    refine' wpAnyH_take (i := 4) (oi := _) (v := _) ?hit102 ?hst102 ?hft102 ?hrt102 ?hQt102 ?hyt102 ?hSt102 ?_
    case hit102 => (simp only [List.getElem?_toArray, List.getElem?_cons_succ, List.getElem?_cons_zero]; rfl)
    case hst102 => kernel_rfl
    case hft102 => kernel_rfl
    case hrt102 => kernel_rfl
    case hQt102 => exact fun _ _ _ h => h
    case hSt102 => assumption
    case hyt102 =>
      refine Or.inl ⟨by rfl, ?_⟩
      intro w hSw
      (try dsimp only at hSw)
      go_simp
      all_goals (with_reducible rfl)
    (try simp only [Act.put, List.setIfInBounds_toArray, List.set_cons_zero, List.set_cons_succ])
    refine wpAnyH_ready (rs := [0]) (by kernel_rfl) (by simp) ?_
    refine' (AllReadyH.cons (o := _) ?hir103_0 (fun K hK => ?br103_0) AllReadyH.nil)
    case hir103_0 => (simp only [List.getElem?_toArray, List.getElem?_cons_succ, List.getElem?_cons_zero]; rfl)
    case br103_0 =>
      go_simp
      refine (H.base _ (H.old (H.old HQ.out HB.out) HB0.out)).mono ?_
      rintro e w104 ⟨c16, rfl, hp104, hb104⟩
      have P16 := Lib.hid hp104
      have H104 := Lib.hid (HB0.out.trans (hb104.mono HB0.out.size))
      clear hp104 hb104
      go_wp2_with fail
      refine hK.out _ _ ?_ (fun hHeld => ?_)
      exact H104.out
      clear hK K
      (try simp only [Act.put, List.setIfInBounds_toArray, List.set_cons_zero, List.set_cons_succ])
      refine wpAnyH_ready (rs := [2]) (by kernel_rfl) (by simp) ?_
      refine' (AllReadyH.cons (o := _) ?hir105_2 (fun K hK => ?br105_2) AllReadyH.nil)
      case hir105_2 => (simp only [List.getElem?_toArray, List.getElem?_cons_succ, List.getElem?_cons_zero]; rfl)
      case br105_2 =>
        go_simp
        refine (CTM.out _ P16.out (H.old (H.old HQ.out HB.out) H104.out)).mono ?_
        rintro e w106 ⟨c18, rfl, hp106, hb106⟩
        have P18 := Lib.hid hp106
        have H106 := Lib.hid (H104.out.trans (hb106.mono H104.out.size))
        clear hp106 hb106
        go_wp2_with fail
        refine hK.out _ _ ?_ (fun hHeld => ?_)
        exact H106.out
        clear hK K
        (try simp only [Act.put, List.setIfInBounds_toArray, List.set_cons_zero, List.set_cons_succ])
        refine wpAnyH_ready (rs := [3]) (by kernel_rfl) (by simp) ?_
        refine' (AllReadyH.cons (o := _) ?hir107_3 (fun K hK => ?br107_3) AllReadyH.nil)
        case hir107_3 => (simp only [List.getElem?_toArray, List.getElem?_cons_succ, List.getElem?_cons_zero]; rfl)
        case br107_3 =>
          go_simp
          refine (refBase_any _).mono ?_
          rintro e w108 ⟨rfl, hb108⟩
          have P19 := Lib.hid PtAt.base
          have H108 := Lib.hid (H106.out.trans (hb108.mono H106.out.size))
          clear hb108
          generalize pV pbase.x pbase.y 1 = c19 at *
          go_wp2_with fail
          refine hK.out _ _ ?_ (fun hHeld => ?_)
          exact H108.out
          clear hK K
          (try simp only [Act.put, List.setIfInBounds_toArray, List.set_cons_zero, List.set_cons_succ])
          refine wpAnyH_ready (rs := [5]) (by kernel_rfl) (by simp) ?_
          refine' (AllReadyH.cons (o := _) ?hir109_5 (fun K hK => ?br109_5) AllReadyH.nil)
          case hir109_5 => (simp only [List.getElem?_toArray, List.getElem?_cons_succ, List.getElem?_cons_zero]; rfl)
          case br109_5 =>
            go_simp
            refine (CRT.out _ _ P19.out (RD.out _ H108.out)).mono ?_
            rintro e w110 ⟨c21, rfl, hp110, hb110⟩
            have P21 := Lib.hid hp110
            have H110 := Lib.hid (H108.out.trans (hb110.mono H108.out.size))
            clear hp110 hb110
            go_wp2_with fail
            refine hK.out _ _ ?_ (fun hHeld => ?_)
            exact H110.out
            clear hK K
            (try simp only [Act.put, List.setIfInBounds_toArray, List.set_cons_zero, List.set_cons_succ])
            refine wpAnyH_ready (rs := [6]) (by kernel_rfl) (by simp) ?_
            refine' (AllReadyH.cons (o := _) ?hir111_6 (fun K hK => ?br111_6) AllReadyH.nil)
            case hir111_6 => (simp only [List.getElem?_toArray, List.getElem?_cons_succ, List.getElem?_cons_zero]; rfl)
            case br111_6 =>
              go_simp
              refine (same_ptT H rfl P18.out P21.out _ (H.old (H.old HQ.out HB.out) H110.out)).mono ?_
              rintro e w112 ⟨rfl, hb112⟩
              have H112 := Lib.hid (H110.out.trans (hb112.mono H110.out.size))
              clear hb112
              go_wp2_with fail
              refine hK.out _ _ ?_ (fun hHeld => ?_)
              exact H112.out
              clear hK K
              (try simp only [Act.put, List.setIfInBounds_toArray, List.set_cons_zero, List.set_cons_succ])
              refine' wpAnyH_take (i := 7) (oi := _) (v := _) ?hit113 ?hst113 ?hft113 ?hrt113 ?hQt113 ?hyt113 ?hSt113 ?_
              case hit113 => (simp only [List.getElem?_toArray, List.getElem?_cons_succ, List.getElem?_cons_zero]; rfl)
              case hst113 => kernel_rfl
              case hft113 => kernel_rfl
              case hrt113 => kernel_rfl
              case hQt113 => exact fun _ _ _ h => h
              case hSt113 => assumption
              case hyt113 =>
                refine Or.inl ⟨by rfl, ?_⟩
                intro w hSw
                (try dsimp only at hSw)
                go_simp
                all_goals (with_reducible rfl)
              (try simp only [Act.put, List.setIfInBounds_toArray, List.set_cons_zero, List.set_cons_succ])
              refine wpAnyH_ready (rs := [8]) (by kernel_rfl) (by simp) ?_
              refine' (AllReadyH.cons (o := _) ?hir114_8 (fun K hK => ?br114_8) AllReadyH.nil)
              case hir114_8 => (simp only [List.getElem?_toArray, List.getElem?_cons_succ, List.getElem?_cons_zero]; rfl)
              case br114_8 =>
                go_simp
                refine (awake7_any H _ (H.old (H.old HQ.out HB.out) H112.out)).mono ?_
                rintro e w115 ⟨rfl, hb115⟩
                have H115 := Lib.hid (H112.out.trans (hb115.mono H112.out.size))
                clear hb115
                go_wp2_with fail
                refine hK.out _ _ ?_ (fun hHeld => ?_)
                exact H115.out
                clear hK K
                (try simp only [Act.put, List.setIfInBounds_toArray, List.set_cons_zero, List.set_cons_succ])
                refine' wpAnyH_take (i := 9) (oi := _) (v := _) ?hit116 ?hst116 ?hft116 ?hrt116 ?hQt116 ?hyt116 ?hSt116 ?_
                case hit116 => (simp only [List.getElem?_toArray, List.getElem?_cons_succ, List.getElem?_cons_zero]; rfl)
                case hst116 => kernel_rfl
                case hft116 => kernel_rfl
                case hrt116 => kernel_rfl
                case hQt116 => exact fun _ _ _ h => h
                case hSt116 => assumption
                case hyt116 =>
                  refine Or.inl ⟨by rfl, ?_⟩
                  intro w hSw
                  (try dsimp only at hSw)
                  go_simp
                  all_goals (with_reducible rfl)
                (try simp only [Act.put, List.setIfInBounds_toArray, List.set_cons_zero, List.set_cons_succ])
                refine' wpAnyH_take (i := 10) (oi := _) (v := _) ?hit117 ?hst117 ?hft117 ?hrt117 ?hQt117 ?hyt117 ?hSt117 ?_
                case hit117 => (simp only [List.getElem?_toArray, List.getElem?_cons_succ, List.getElem?_cons_zero]; rfl)
                case hst117 => kernel_rfl
                case hft117 => kernel_rfl
                case hrt117 => kernel_rfl
                case hQt117 => exact fun _ _ _ h => h
                case hSt117 => assumption
                case hyt117 =>
                  refine Or.inl ⟨by rfl, ?_⟩
                  intro w hSw
                  (try dsimp only at hSw)
                  go_simp
                  all_goals (with_reducible rfl)
                (try simp only [Act.put, List.setIfInBounds_toArray, List.set_cons_zero, List.set_cons_succ])
                refine wpAnyH_done (by kernel_rfl) ?_ _
                have hbe := Lib.hid (HB.out.trans (H115.out.mono HB.out.size))
                clear hHeld
                go_wp2_with fail
                go_ret
                exact ⟨rfl, hbe.out⟩
  have ok0 : okP v0 := by have := hb0.out; rw [hc0] at this; simpa using this.symm
  obtain ⟨p0, hp0⟩ : ∃ p, Hid (p = pget v0 ok0) := ⟨_, Lib.hid rfl⟩
  have PU0 : Hid (PP p0 cu0) := by rw [hp0.out]; exact Lib.hid (HU0.out ok0)
  have PF0 : Hid (PtAt p0 cf0) := by rw [hp0.out]; exact Lib.hid (HF0.out ok0)
  have EN0 : Hid (enc p0 = v0) := by rw [hp0.out]; exact Lib.hid (enc_pget hv0 ok0)
  clear hc0 ok0 hp0 hb0 HU0 HF0 CT0
  go_upto_region 4 with fail
  (try simp only [Act.put, List.setIfInBounds_toArray, List.set_cons_zero, List.set_cons_succ])
  refine wp_region_held_drew (S := fun V => Below W0.heap.size W0 V) (by kernel_rfl) (Below.refl _ _).drew (fun hHeld => ?_)
  have HB0 := Lib.hid ((Below.refl W0.heap.size W0).drew)
  generalize W0.drew = V0 at *
  refine' wpAnyH_take (i := 0) (oi := _) (v := .agg cu0) ?hit118 ?hst118 ?hft118 ?hrt118 ?hQt118 ?hyt118 ?hSt118 ?_
  case hit118 => (simp only [List.getElem?_toArray, List.getElem?_cons_succ, List.getElem?_cons_zero]; rfl)
  case hst118 => kernel_rfl
  case hft118 => kernel_rfl
  case hrt118 => kernel_rfl
  case hQt118 => exact fun _ _ _ h => h
  case hSt118 => assumption
  case hyt118 =>
    refine Or.inl ⟨by rfl, ?_⟩
    intro W hS
    exact quiet_load_row 30 (.tmp 5) _ rfl 30 cu0 _ (E0.out.old hS) Tryd.underlying30 rfl ou0.out.1 rfl
  (try simp only [Act.put, List.setIfInBounds_toArray, List.set_cons_zero, List.set_cons_succ])
  refine' wpAnyH_take (i := 1) (oi := _) (v := .agg ca1) ?hit119 ?hst119 ?hft119 ?hrt119 ?hQt119 ?hyt119 ?hSt119 ?_
  case hit119 => (simp only [List.getElem?_toArray, List.getElem?_cons_succ, List.getElem?_cons_zero]; rfl)
  case hst119 => kernel_rfl
  case hft119 => kernel_rfl
  case hrt119 => kernel_rfl
  case hQt119 => exact fun _ _ _ h => h
  case hSt119 => assumption
  case hyt119 =>
    refine Or.inl ⟨by rfl, ?_⟩
    intro W hS
    exact quiet_load_row 40 (.tmp 3) _ rfl 40 ca1 _ (X1.out.old hS) Tryd.underlying40 rfl hia1.out rfl
  (try simp only [Act.put, List.setIfInBounds_toArray, List.set_cons_zero, List.set_cons_succ])
  refine' wpAnyH_take (i := 3) (oi := _) (v := .agg cf0) ?hit120 ?hst120 ?hft120 ?hrt120 ?hQt120 ?hyt120 ?hSt120 ?_
  case hit120 => (simp only [List.getElem?_toArray, List.getElem?_cons_succ, List.getElem?_cons_zero]; rfl)
  case hst120 => kernel_rfl
  case hft120 => kernel_rfl
  case hrt120 => kernel_rfl
  case hQt120 => exact fun _ _ _ h => h
  case hSt120 => assumption
  case hyt120 =>
    refine Or.inl ⟨by rfl, ?_⟩
    intro W hS
    exact quiet_load_row 37 (.tmp 6) _ rfl 37 cf0 _ (F0.out.old hS) Tryd.underlying37 rfl of0.out.1 rfl
  (try simp only [Act.put, List.setIfInBounds_toArray, List.set_cons_zero, List.set_cons_succ])
  refine' wpAnyH_take (i := 4) (oi := _) (v := _) ?hit121 ?hst121 ?hft121 ?hrt121 ?hQt121 ?hyt121 ?hSt121 ?_
  case hit121 => (simp only [List.getElem?_toArray, List.getElem?_cons_succ, List.getElem?_cons_zero]; rfl)
  case hst121 => kernel_rfl
  case hft121 => kernel_rfl
  case hrt121 => kernel_rfl
  case hQt121 => exact fun _ _ _ h => h
  case hSt121 => assumption
  case hyt121 =>
    refine Or.inl ⟨by rfl, ?_⟩
    intro w hSw
    (try dsimp only at hSw)
    go_simp
    all_goals (with_reducible rfl)
  (try simp only [Act.put, List.setIfInBounds_toArray, List.set_cons_zero, List.set_cons_succ])
  refine wpAnyH_ready (rs := [2]) (by kernel_rfl) (by simp) ?_
  refine' (AllReadyH.cons (o := _) ?hir122_2 (fun K hK => ?br122_2) AllReadyH.nil)
  case hir122_2 => (simp only [List.getElem?_toArray, List.getElem?_cons_succ, List.getElem?_cons_zero]; rfl)
  case br122_2 =>
    go_simp
    refine (CTM.out _ PU0.out (H.old (H.old HQ.out HB.out) HB0.out)).mono ?_
    rintro e w123 ⟨c28, rfl, hp123, hb123⟩
    have P28 := Lib.hid hp123
    have H123 := Lib.hid (HB0.out.trans (hb123.mono HB0.out.size))
    clear hp123 hb123
    go_wp2_with fail
    refine hK.out _ _ ?_ (fun hHeld => ?_)
    exact H123.out
    clear hK K
    (try simp only [Act.put, List.setIfInBounds_toArray, List.set_cons_zero, List.set_cons_succ])
    refine wpAnyH_ready (rs := [5]) (by kernel_rfl) (by simp) ?_
    refine' (AllReadyH.cons (o := _) ?hir124_5 (fun K hK => ?br124_5) AllReadyH.nil)
    case hir124_5 => (simp only [List.getElem?_toArray, List.getElem?_cons_succ, List.getElem?_cons_zero]; rfl)
    case br124_5 =>
      go_simp
      refine (CRT.out _ _ PF0.out (RD.out _ H123.out)).mono ?_
      rintro e w125 ⟨c31, rfl, hp125, hb125⟩
      have P31 := Lib.hid hp125
      have H125 := Lib.hid (H123.out.trans (hb125.mono H123.out.size))
      clear hp125 hb125
      go_wp2_with fail
      refine hK.out _ _ ?_ (fun hHeld => ?_)
      exact H125.out
      clear hK K
      (try simp only [Act.put, List.setIfInBounds_toArray, List.set_cons_zero, List.set_cons_succ])
      refine wpAnyH_ready (rs := [6]) (by kernel_rfl) (by simp) ?_
      refine' (AllReadyH.cons (o := _) ?hir126_6 (fun K hK => ?br126_6) AllReadyH.nil)
      case hir126_6 => (simp only [List.getElem?_toArray, List.getElem?_cons_succ, List.getElem?_cons_zero]; rfl)
      case br126_6 =>
        go_simp
        refine (same_ptT H rfl P28.out P31.out _ (H.old (H.old HQ.out HB.out) H125.out)).mono ?_
        rintro e w127 ⟨rfl, hb127⟩
        have H127 := Lib.hid (H125.out.trans (hb127.mono H125.out.size))
        clear hb127
        go_wp2_with fail
        refine hK.out _ _ ?_ (fun hHeld => ?_)
        exact H127.out
        clear hK K
        (try simp only [Act.put, List.setIfInBounds_toArray, List.set_cons_zero, List.set_cons_succ])
        refine' wpAnyH_take (i := 7) (oi := _) (v := _) ?hit128 ?hst128 ?hft128 ?hrt128 ?hQt128 ?hyt128 ?hSt128 ?_
        case hit128 => (simp only [List.getElem?_toArray, List.getElem?_cons_succ, List.getElem?_cons_zero]; rfl)
        case hst128 => kernel_rfl
        case hft128 => kernel_rfl
        case hrt128 => kernel_rfl
        case hQt128 => exact fun _ _ _ h => h
        case hSt128 => assumption
        case hyt128 =>
          refine Or.inl ⟨by rfl, ?_⟩
          intro w hSw
          (try dsimp only at hSw)
          go_simp
          all_goals (with_reducible rfl)
        (try simp only [Act.put, List.setIfInBounds_toArray, List.set_cons_zero, List.set_cons_succ])
        refine wpAnyH_ready (rs := [8]) (by kernel_rfl) (by simp) ?_
        refine' (AllReadyH.cons (o := _) ?hir129_8 (fun K hK => ?br129_8) AllReadyH.nil)
        case hir129_8 => (simp only [List.getElem?_toArray, List.getElem?_cons_succ, List.getElem?_cons_zero]; rfl)
        case br129_8 =>
          go_simp
          refine (awake7_any H _ (H.old (H.old HQ.out HB.out) H127.out)).mono ?_
          rintro e w130 ⟨rfl, hb130⟩
          have H130 := Lib.hid (H127.out.trans (hb130.mono H127.out.size))
          clear hb130
          go_wp2_with fail
          refine hK.out _ _ ?_ (fun hHeld => ?_)
          exact H130.out
          clear hK K
          (try simp only [Act.put, List.setIfInBounds_toArray, List.set_cons_zero, List.set_cons_succ])
          refine' wpAnyH_take (i := 9) (oi := _) (v := _) ?hit131 ?hst131 ?hft131 ?hrt131 ?hQt131 ?hyt131 ?hSt131 ?_
          case hit131 => (simp only [List.getElem?_toArray, List.getElem?_cons_succ, List.getElem?_cons_zero]; rfl)
          case hst131 => kernel_rfl
          case hft131 => kernel_rfl
          case hrt131 => kernel_rfl
          case hQt131 => exact fun _ _ _ h => h
          case hSt131 => assumption
          case hyt131 =>
            refine Or.inl ⟨by rfl, ?_⟩
            intro w hSw
            (try dsimp only at hSw)
            go_simp
            all_goals (with_reducible rfl)
          (try simp only [Act.put, List.setIfInBounds_toArray, List.set_cons_zero, List.set_cons_succ])
          refine' wpAnyH_take (i := 10) (oi := _) (v := _) ?hit132 ?hst132 ?hft132 ?hrt132 ?hQt132 ?hyt132 ?hSt132 ?_
          case hit132 => (simp only [List.getElem?_toArray, List.getElem?_cons_succ, List.getElem?_cons_zero]; rfl)
          case hst132 => kernel_rfl
          case hft132 => kernel_rfl
          case hrt132 => kernel_rfl
          case hQt132 => exact fun _ _ _ h => h
          case hSt132 => assumption
          case hyt132 =>
            refine Or.inl ⟨by rfl, ?_⟩
            intro w hSw
            (try dsimp only at hSw)
            go_simp
            all_goals (with_reducible rfl)
          (try simp only [Act.put, List.setIfInBounds_toArray, List.set_cons_zero, List.set_cons_succ])
          refine wpAnyH_done (by kernel_rfl) ?_ _
          have hbe := Lib.hid (HB.out.trans (H130.out.mono HB.out.size))
          clear hHeld
          go_wp2_with fail
          go_ret
          exact ⟨rfl, hbe.out⟩
end Go.Proofs.YtjiadbaaggifpaaDoor
