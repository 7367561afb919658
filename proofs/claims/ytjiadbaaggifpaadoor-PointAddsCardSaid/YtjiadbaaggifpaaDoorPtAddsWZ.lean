/-
  The walk of the law PointAdds. Condition: the program's points are as they must be.
-/
import Derived.Test.YtjiadbaaggifpaaDoorM5
set_option linter.unusedVariables false
set_option linter.unusedSimpArgs false
namespace Go.Proofs.YtjiadbaaggifpaaDoor
open Go Go.Proofs Go.RowKit F5

theorem run_eql_bytes7 {T : TypeId} {n : Nat} (hu : Tryd.prog.underlying T = some (.array n 5)) (l l' : List UInt8) (h : l.length = n) (h' : l'.length = n) (w : World) :
    (binOp .eql T (.agg (bytesA l)) (.agg (bytesA l'))).run Tryd.prog w = .ok (.bool (decide (l = l'))) w := by
  obtain ⟨i0, hi⟩ : ∃ i0, Tryd.prog.info? 5 = some i0 := by
    cases hq : Tryd.prog.info? 5 with
    | none => exact absurd hq (by have : (Tryd.prog.info? 5).isSome = true := by kernel_rfl
                                  intro e; rw [e] at this; cases this)
    | some x => exact ⟨x, rfl⟩
  have hc : Tryd.prog.cellsOf 5 = 1 := by kernel_rfl
  rw [run_eql_struct, run_equalIn_array w 9999 (bytesA l) (bytesA l') hu hi, hc, eqItems_all 9998 5 .u8 .u8 Tryd.underlying5 (by kernel_rfl) _ _ (fun i => (((l.map UInt8.toNat).getD i 0 : Nat) : Int)) (fun i => (((l'.map UInt8.toNat).getD i 0 : Nat) : Int)) w _ (fun i hi => by
    have := List.mem_range.1 hi
    exact ⟨bytesA_getN _ _ (by omega), bytesA_getN _ _ (by omega)⟩), all_range (by simpa using h) (by simpa using h')]
  simp only [map_toNat_inj]
  rfl
theorem quiet_eql_bytes7 {o : Oper} {ev : Operand → Value} (w : World) (x y : Operand) (k : TypeId) (l l' : List UInt8) (hl : l.length = 32) (hl' : l'.length = 32) (hx : ev x = .agg (bytesA l)) (hy : ev y = .agg (bytesA l'))
    (ho : o.op = .binOp .eql 40 x y k) : (execOp ev o).run Tryd.prog w = .ok (.value (.bool (decide (l = l')))) w := by
  have hg : (eqGuard .eql 40 x y (.agg (bytesA l)) (.agg (bytesA l'))).run Tryd.prog w = .ok () w := run_eqGuard_agg w .eql _ x y _ _ (by kernel_rfl)
  unfold execOp
  simp only [ho, hx, hy, Sem.run_bind, hg, Result.andThen_ok, run_eql_bytes7 Tryd.underlying40 l l' hl hl' w, Sem.run_pure]

set_option maxHeartbeats 32000000 in
set_option maxRecDepth 100000 in
theorem padds_walk {Q : World → Prop} {PP : Pt → Array Value → Prop} {zv : Array Value} (H : PtOk Q PP zv) (v0 v1 : Nat) (hv0 : v0 < 2 ^ 256) (hv1 : v1 < 2 ^ 256) (w : World) (hQ : Q w) :
    Calls Tryd.prog 4 #[.agg (bytesA (fbytes v0)), .agg (bytesA (fbytes v1))] w fun e w' => e = .returned (.bool true) ∧ Below w.heap.size w w' := by
  have HQ := Lib.hid hQ
  obtain ⟨z, hz⟩ : ∃ z, Hid (z = pV 0 0 0) := ⟨_, Lib.hid rfl⟩
  have hz0 : ∀ W, (zeroValue 37).run Tryd.prog W = .ok (.agg z) W := by rw [hz.out]; exact zeroP
  have zs : Hid (z.size = 48) := Lib.hid (by rw [hz.out]; exact pV_size _ _ _)
  have hzp0 : ∀ W : World, (zeroValue 30).run Tryd.prog W = .ok (.agg zv) W := H.zero_run
  obtain ⟨ca0, hca0⟩ : ∃ x, Hid (x = bytesA (fbytes v0)) := ⟨_, Lib.hid rfl⟩
  have hia0 : Hid ((Tryd.prog.info? 40).map (·.size) = some ca0.size) := by rw [hca0.out]; exact Lib.hid (fbytes_info v0)
  obtain ⟨ca1, hca1⟩ : ∃ x, Hid (x = bytesA (fbytes v1)) := ⟨_, Lib.hid rfl⟩
  have hia1 : Hid ((Tryd.prog.info? 40).map (·.size) = some ca1.size) := by rw [hca1.out]; exact Lib.hid (fbytes_info v1)
  have CT0 : Hid (∀ W, Q W → Calls Tryd.prog 14 #[.agg (bytesA (fbytes v0))] W fun e w' => ∃ cu cf, e = .returned (.tuple #[.agg cu, .agg cf, .bool (decide (okP v0))]) ∧ (∀ h : okP v0, PP (pget v0 h) cu) ∧ (∀ h : okP v0, PtAt (pget v0 h) cf) ∧ PSh zv cu ∧ PShape cf ∧ Below W.heap.size W w') := Lib.hid fun W hW => two_pt H v0 hv0 W hW
  obtain ⟨b0, hb0⟩ : ∃ b, Hid (b = decide (okP v0)) := ⟨_, Lib.hid rfl⟩
  rw [← hb0.out] at CT0
  rw [← hca0.out] at CT0
  have CT1 : Hid (∀ W, Q W → Calls Tryd.prog 14 #[.agg (bytesA (fbytes v1))] W fun e w' => ∃ cu cf, e = .returned (.tuple #[.agg cu, .agg cf, .bool (decide (okP v1))]) ∧ (∀ h : okP v1, PP (pget v1 h) cu) ∧ (∀ h : okP v1, PtAt (pget v1 h) cf) ∧ PSh zv cu ∧ PShape cf ∧ Below W.heap.size W w') := Lib.hid fun W hW => two_pt H v1 hv1 W hW
  obtain ⟨b1, hb1⟩ : ∃ b, Hid (b = decide (okP v1)) := ⟨_, Lib.hid rfl⟩
  rw [← hb1.out] at CT1
  rw [← hca1.out] at CT1
  rw [← hca0.out, ← hca1.out]
  obtain ⟨x0, x1, xb⟩ := (show Blk ((w.alloc (.cells ca0 40)).alloc (.cells ca1 40)) (w.heap.size) 40 ca0 ∧ Blk ((w.alloc (.cells ca0 40)).alloc (.cells ca1 40)) (w.heap.size + 1) 40 ca1 ∧ Below w.heap.size w ((w.alloc (.cells ca0 40)).alloc (.cells ca1 40)) by
    have h0 := (Blk.new w 40 ca0).alloc (.cells ca1 40)
    have h1 := Blk.new (w.alloc (.cells ca0 40)) 40 ca1
    rw [show (w.alloc (.cells ca0 40)).heap.size = w.heap.size + 1 by simp] at h1
    exact ⟨h0, h1, (((Below.refl w.heap.size w).alloc (Nat.le_refl _) _).alloc (by simp) _)⟩)
  clear hQ hz
  go_enter Tryd.func4, Tryd.ntmps4
  go_upto_region 1 with fail
  generalize (w.alloc (.cells ca0 40)).alloc (.cells ca1 40) = W at *
  have X0 := Lib.hid x0
  have X1 := Lib.hid x1
  have HB := Lib.hid xb
  clear x0 x1 xb
  go_upto_region 2 with (first | (refine wpList_load_row rfl 40 (.tmp 2) rfl w.heap.size rfl 40 ca0 (0, 0) _ X0.out Tryd.underlying40 rfl hia0.out ?_))
  refine (CT0.out _ (H.old HQ.out HB.out)).mono ?_
  rintro e w10 ⟨cu0, cf0, rfl, hu0, hf0, hsu0, hsf0, hbb⟩
  obtain ⟨r1, r2, r3, r5, r4⟩ := pt_row w10 zv z cu0 cf0
  have hbc := hbb.trans (r4.mono hbb.size)
  have ou0 := Lib.hid hsu0
  have of0 := Lib.hid (show _ ∧ _ ∧ z.size = cf0.size from ⟨hsf0.1, hsf0.2.1, by rw [zs.out, hsf0.2.2]⟩)
  have HU0 := Lib.hid hu0
  have HF0 := Lib.hid hf0
  have X0 := Lib.hid (X0.out.old hbc)
  have X1 := Lib.hid (X1.out.old hbc)
  have E0 := Lib.hid r3
  have F0 := Lib.hid r5
  have HB := Lib.hid (HB.out.trans (hbc.mono HB.out.size))
  have R1 := Lib.hid r1
  have R2 := Lib.hid r2
  clear hbb r1 r2 r3 r4 r5 hbc hu0 hf0 hsu0 hsf0
  go_upto_region 2 with (first | (refine wpList_store_row rfl 30 (.tmp 5) (.tmp 14) rfl w10.heap.size cu0 rfl rfl 30 _ R1.out ou0.out.1 ou0.out.2.2 ou0.out.2.1 ?_) |
    (refine wpList_store_row rfl 37 (.tmp 6) (.tmp 15) rfl (w10.heap.size + 1) cf0 rfl rfl 37 z R2.out of0.out.1 of0.out.2.2 of0.out.2.1 ?_))
  clear R1 R2
  generalize (((w10.alloc (.cells zv 30)).alloc (.cells z 37)).setRow w10.heap.size cu0).setRow (w10.heap.size + 1) cf0 = W0 at *
  generalize w10.heap.size + 1 = gf0 at *
  generalize w10.heap.size = ge0 at *
  go_upto_region 3 with (first | (refine wpList_load_row rfl 40 (.tmp 3) rfl (w.heap.size + 1) rfl 40 ca1 (0, 0) _ X1.out Tryd.underlying40 rfl hia1.out ?_))
  refine (CT1.out _ (H.old HQ.out HB.out)).mono ?_
  rintro e w11 ⟨cu1, cf1, rfl, hu1, hf1, hsu1, hsf1, hbb⟩
  obtain ⟨r1, r2, r3, r5, r4⟩ := pt_row w11 zv z cu1 cf1
  have hbc := hbb.trans (r4.mono hbb.size)
  have ou1 := Lib.hid hsu1
  have of1 := Lib.hid (show _ ∧ _ ∧ z.size = cf1.size from ⟨hsf1.1, hsf1.2.1, by rw [zs.out, hsf1.2.2]⟩)
  have HU1 := Lib.hid hu1
  have HF1 := Lib.hid hf1
  have X0 := Lib.hid (X0.out.old hbc)
  have X1 := Lib.hid (X1.out.old hbc)
  have E0 := Lib.hid (E0.out.old hbc)
  have F0 := Lib.hid (F0.out.old hbc)
  have E1 := Lib.hid r3
  have F1 := Lib.hid r5
  have HB := Lib.hid (HB.out.trans (hbc.mono HB.out.size))
  have R1 := Lib.hid r1
  have R2 := Lib.hid r2
  clear hbb r1 r2 r3 r4 r5 hbc hu1 hf1 hsu1 hsf1
  go_upto_region 3 with (first | (refine wpList_store_row rfl 30 (.tmp 8) (.tmp 20) rfl w11.heap.size cu1 rfl rfl 30 _ R1.out ou1.out.1 ou1.out.2.2 ou1.out.2.1 ?_) |
    (refine wpList_store_row rfl 37 (.tmp 9) (.tmp 21) rfl (w11.heap.size + 1) cf1 rfl rfl 37 z R2.out of1.out.1 of1.out.2.2 of1.out.2.1 ?_))
  clear R1 R2
  generalize (((w11.alloc (.cells zv 30)).alloc (.cells z 37)).setRow w11.heap.size cu1).setRow (w11.heap.size + 1) cf1 = W1 at *
  generalize w11.heap.size + 1 = gf1 at *
  generalize w11.heap.size = ge1 at *
  cases hc0 : b0
  · clear hc0
    go_wp2_with fail
    refine (awake7_any H _ (H.old HQ.out HB.out)).mono ?_
    rintro e w3 ⟨rfl, hbb⟩
    have hbe := Lib.hid (HB.out.trans (hbb.mono HB.out.size))
    clear hbb
    go_wp2
    go_ret
    exact ⟨rfl, hbe.out⟩
  cases hc1 : b1
  · clear hc0 hc1
    go_wp2_with fail
    refine (awake7_any H _ (H.old HQ.out HB.out)).mono ?_
    rintro e w3 ⟨rfl, hbb⟩
    have hbe := Lib.hid (HB.out.trans (hbb.mono HB.out.size))
    clear hbb
    go_wp2
    go_ret
    exact ⟨rfl, hbe.out⟩
  have ok0 : okP v0 := by have := hb0.out; rw [hc0] at this; simpa using this.symm
  obtain ⟨p0, hp0⟩ : ∃ p, Hid (p = pget v0 ok0) := ⟨_, Lib.hid rfl⟩
  have PU0 : Hid (PP p0 cu0) := by rw [hp0.out]; exact Lib.hid (HU0.out ok0)
  have PF0 : Hid (PtAt p0 cf0) := by rw [hp0.out]; exact Lib.hid (HF0.out ok0)
  have EN0 : Hid (enc p0 = v0) := by rw [hp0.out]; exact Lib.hid (enc_pget hv0 ok0)
  have ok1 : okP v1 := by have := hb1.out; rw [hc1] at this; simpa using this.symm
  obtain ⟨p1, hp1⟩ : ∃ p, Hid (p = pget v1 ok1) := ⟨_, Lib.hid rfl⟩
  have PU1 : Hid (PP p1 cu1) := by rw [hp1.out]; exact Lib.hid (HU1.out ok1)
  have PF1 : Hid (PtAt p1 cf1) := by rw [hp1.out]; exact Lib.hid (HF1.out ok1)
  have EN1 : Hid (enc p1 = v1) := by rw [hp1.out]; exact Lib.hid (enc_pget hv1 ok1)
  clear hc0 ok0 hp0 hb0 HU0 HF0 CT0 hc1 ok1 hp1 hb1 HU1 HF1 CT1
  obtain ⟨q, hq⟩ : ∃ q, Hid (q = decide (fbytes v0 = fbytes v1)) := ⟨_, Lib.hid rfl⟩
  have hen : Hid (decide (enc p0 = enc p1) = q) := by rw [hq.out, EN0.out, EN1.out]; exact Lib.hid (decide_eq_decide.2 (fbytes_inj hv0 hv1).symm)
  have CS : Hid (∀ V, Q V → Calls Tryd.prog 19 #[.agg cu0, .agg cu1] V fun e w' => e = .returned (.bool q) ∧ Below V.heap.size V w') := Lib.hid fun V hV => by
    have := H.same V PU0.out PU1.out hV
    rwa [hen.out] at this
  have hqq : (q == q) = true := by cases q <;> rfl
  go_upto_region 5 with fail
  (try simp only [Act.put, List.setIfInBounds_toArray, List.set_cons_zero, List.set_cons_succ])
  refine wp_region_held_drew (S := fun V => Below W1.heap.size W1 V) (by kernel_rfl) (Below.refl _ _).drew (fun hHeld => ?_)
  have HB0 := Lib.hid ((Below.refl W1.heap.size W1).drew)
  generalize W1.drew = V0 at *
  refine' wpAnyH_take (i := 0) (oi := _) (v := .agg cu0) ?hit54 ?hst54 ?hft54 ?hrt54 ?hQt54 ?hyt54 ?hSt54 ?_
  case hit54 => (simp only [List.getElem?_toArray, List.getElem?_cons_succ, List.getElem?_cons_zero]; rfl)
  case hst54 => kernel_rfl
  case hft54 => kernel_rfl
  case hrt54 => kernel_rfl
  case hQt54 => exact fun _ _ _ h => h
  case hSt54 => assumption
  case hyt54 =>
    refine Or.inl ⟨by rfl, ?_⟩
    intro W hS
    exact quiet_load_row 30 (.tmp 5) _ rfl 30 cu0 _ (E0.out.old hS) Tryd.underlying30 rfl ou0.out.1 rfl
  (try simp only [Act.put, List.setIfInBounds_toArray, List.set_cons_zero, List.set_cons_succ])
  refine' wpAnyH_take (i := 1) (oi := _) (v := .agg cu1) ?hit55 ?hst55 ?hft55 ?hrt55 ?hQt55 ?hyt55 ?hSt55 ?_
  case hit55 => (simp only [List.getElem?_toArray, List.getElem?_cons_succ, List.getElem?_cons_zero]; rfl)
  case hst55 => kernel_rfl
  case hft55 => kernel_rfl
  case hrt55 => kernel_rfl
  case hQt55 => exact fun _ _ _ h => h
  case hSt55 => assumption
  case hyt55 =>
    refine Or.inl ⟨by rfl, ?_⟩
    intro W hS
    exact quiet_load_row 30 (.tmp 8) _ rfl 30 cu1 _ (E1.out.old hS) Tryd.underlying30 rfl ou1.out.1 rfl
  (try simp only [Act.put, List.setIfInBounds_toArray, List.set_cons_zero, List.set_cons_succ])
  refine' wpAnyH_take (i := 3) (oi := _) (v := .agg cf0) ?hit56 ?hst56 ?hft56 ?hrt56 ?hQt56 ?hyt56 ?hSt56 ?_
  case hit56 => (simp only [List.getElem?_toArray, List.getElem?_cons_succ, List.getElem?_cons_zero]; rfl)
  case hst56 => kernel_rfl
  case hft56 => kernel_rfl
  case hrt56 => kernel_rfl
  case hQt56 => exact fun _ _ _ h => h
  case hSt56 => assumption
  case hyt56 =>
    refine Or.inl ⟨by rfl, ?_⟩
    intro W hS
    exact quiet_load_row 37 (.tmp 6) _ rfl 37 cf0 _ (F0.out.old hS) Tryd.underlying37 rfl of0.out.1 rfl
  (try simp only [Act.put, List.setIfInBounds_toArray, List.set_cons_zero, List.set_cons_succ])
  refine' wpAnyH_take (i := 4) (oi := _) (v := .agg cf1) ?hit57 ?hst57 ?hft57 ?hrt57 ?hQt57 ?hyt57 ?hSt57 ?_
  case hit57 => (simp only [List.getElem?_toArray, List.getElem?_cons_succ, List.getElem?_cons_zero]; rfl)
  case hst57 => kernel_rfl
  case hft57 => kernel_rfl
  case hrt57 => kernel_rfl
  case hQt57 => exact fun _ _ _ h => h
  case hSt57 => assumption
  case hyt57 =>
    refine Or.inl ⟨by rfl, ?_⟩
    intro W hS
    exact quiet_load_row 37 (.tmp 9) _ rfl 37 cf1 _ (F1.out.old hS) Tryd.underlying37 rfl of1.out.1 rfl
  (try simp only [Act.put, List.setIfInBounds_toArray, List.set_cons_zero, List.set_cons_succ])
  refine wpAnyH_ready (rs := [2]) (by kernel_rfl) (by simp) ?_
  refine' (AllReadyH.cons (o := _) ?hir58_2 (fun K hK => ?br58_2) AllReadyH.nil)
  case hir58_2 => (simp only [List.getElem?_toArray, List.getElem?_cons_succ, List.getElem?_cons_zero]; rfl)
  case br58_2 =>
    go_simp
    refine (H.add _ PU0.out PU1.out (H.old (H.old HQ.out HB.out) HB0.out)).mono ?_
    rintro e w59 ⟨c32, rfl, hp59, hb59⟩
    have P32 := Lib.hid hp59
    have H59 := Lib.hid (HB0.out.trans (hb59.mono HB0.out.size))
    clear hp59 hb59
    go_wp2_with fail
    refine hK.out _ _ ?_ (fun hHeld => ?_)
    exact H59.out
    clear hK K
    (try simp only [Act.put, List.setIfInBounds_toArray, List.set_cons_zero, List.set_cons_succ])
    refine wpAnyH_ready (rs := [5]) (by kernel_rfl) (by simp) ?_
    refine' (AllReadyH.cons (o := _) ?hir60_5 (fun K hK => ?br60_5) AllReadyH.nil)
    case hir60_5 => (simp only [List.getElem?_toArray, List.getElem?_cons_succ, List.getElem?_cons_zero]; rfl)
    case br60_5 =>
      go_simp
      refine (refAddPt_any PF0.out PF1.out _).mono ?_
      rintro e w61 ⟨c35, rfl, hp61, hb61⟩
      have P35 := Lib.hid hp61
      have H61 := Lib.hid (H59.out.trans (hb61.mono H59.out.size))
      clear hp61 hb61
      go_wp2_with fail
      refine hK.out _ _ ?_ (fun hHeld => ?_)
      exact H61.out
      clear hK K
      (try simp only [Act.put, List.setIfInBounds_toArray, List.set_cons_zero, List.set_cons_succ])
      refine wpAnyH_ready (rs := [6]) (by kernel_rfl) (by simp) ?_
      refine' (AllReadyH.cons (o := _) ?hir62_6 (fun K hK => ?br62_6) AllReadyH.nil)
      case hir62_6 => (simp only [List.getElem?_toArray, List.getElem?_cons_succ, List.getElem?_cons_zero]; rfl)
      case br62_6 =>
        go_simp
        refine (same_ptT H rfl P32.out P35.out _ (H.old (H.old HQ.out HB.out) H61.out)).mono ?_
        rintro e w63 ⟨rfl, hb63⟩
        have H63 := Lib.hid (H61.out.trans (hb63.mono H61.out.size))
        clear hb63
        go_wp2_with fail
        refine hK.out _ _ ?_ (fun hHeld => ?_)
        exact H63.out
        clear hK K
        (try simp only [Act.put, List.setIfInBounds_toArray, List.set_cons_zero, List.set_cons_succ])
        refine' wpAnyH_take (i := 7) (oi := _) (v := _) ?hit64 ?hst64 ?hft64 ?hrt64 ?hQt64 ?hyt64 ?hSt64 ?_
        case hit64 => (simp only [List.getElem?_toArray, List.getElem?_cons_succ, List.getElem?_cons_zero]; rfl)
        case hst64 => kernel_rfl
        case hft64 => kernel_rfl
        case hrt64 => kernel_rfl
        case hQt64 => exact fun _ _ _ h => h
        case hSt64 => assumption
        case hyt64 =>
          refine Or.inl ⟨by rfl, ?_⟩
          intro w hSw
          (try dsimp only at hSw)
          go_simp
          all_goals (with_reducible rfl)
        (try simp only [Act.put, List.setIfInBounds_toArray, List.set_cons_zero, List.set_cons_succ])
        refine' wpAnyH_take (i := 8) (oi := _) (v := .agg cu0) ?hit65 ?hst65 ?hft65 ?hrt65 ?hQt65 ?hyt65 ?hSt65 ?_
        case hit65 => (simp only [List.getElem?_toArray, List.getElem?_cons_succ, List.getElem?_cons_zero]; rfl)
        case hst65 => kernel_rfl
        case hft65 => kernel_rfl
        case hrt65 => kernel_rfl
        case hQt65 => exact fun _ _ _ h => h
        case hSt65 => assumption
        case hyt65 =>
          refine Or.inl ⟨by rfl, ?_⟩
          intro W hS
          exact quiet_load_row 30 (.tmp 5) _ rfl 30 cu0 _ (E0.out.old hS) Tryd.underlying30 rfl ou0.out.1 rfl
        (try simp only [Act.put, List.setIfInBounds_toArray, List.set_cons_zero, List.set_cons_succ])
        refine' wpAnyH_take (i := 10) (oi := _) (v := .agg cf0) ?hit66 ?hst66 ?hft66 ?hrt66 ?hQt66 ?hyt66 ?hSt66 ?_
        case hit66 => (simp only [List.getElem?_toArray, List.getElem?_cons_succ, List.getElem?_cons_zero]; rfl)
        case hst66 => kernel_rfl
        case hft66 => kernel_rfl
        case hrt66 => kernel_rfl
        case hQt66 => exact fun _ _ _ h => h
        case hSt66 => assumption
        case hyt66 =>
          refine Or.inl ⟨by rfl, ?_⟩
          intro W hS
          exact quiet_load_row 37 (.tmp 6) _ rfl 37 cf0 _ (F0.out.old hS) Tryd.underlying37 rfl of0.out.1 rfl
        (try simp only [Act.put, List.setIfInBounds_toArray, List.set_cons_zero, List.set_cons_succ])
        refine wpAnyH_ready (rs := [9]) (by kernel_rfl) (by simp) ?_
        refine' (AllReadyH.cons (o := _) ?hir67_9 (fun K hK => ?br67_9) AllReadyH.nil)
        case hir67_9 => (simp only [List.getElem?_toArray, List.getElem?_cons_succ, List.getElem?_cons_zero]; rfl)
        case br67_9 =>
          go_simp
          refine (H.neg _ PU0.out (H.old (H.old HQ.out HB.out) H63.out)).mono ?_
          rintro e w68 ⟨c39, rfl, hp68, hb68⟩
          have P39 := Lib.hid hp68
          have H68 := Lib.hid (H63.out.trans (hb68.mono H63.out.size))
          clear hp68 hb68
          go_wp2_with fail
          refine hK.out _ _ ?_ (fun hHeld => ?_)
          exact H68.out
          clear hK K
          (try simp only [Act.put, List.setIfInBounds_toArray, List.set_cons_zero, List.set_cons_succ])
          refine wpAnyH_ready (rs := [11]) (by kernel_rfl) (by simp) ?_
          refine' (AllReadyH.cons (o := _) ?hir69_11 (fun K hK => ?br69_11) AllReadyH.nil)
          case hir69_11 => (simp only [List.getElem?_toArray, List.getElem?_cons_succ, List.getElem?_cons_zero]; rfl)
          case br69_11 =>
            go_simp
            refine (refNegPt_any PF0.out _).mono ?_
            rintro e w70 ⟨c41, rfl, hp70, hb70⟩
            have P41 := Lib.hid hp70
            have H70 := Lib.hid (H68.out.trans (hb70.mono H68.out.size))
            clear hp70 hb70
            go_wp2_with fail
            refine hK.out _ _ ?_ (fun hHeld => ?_)
            exact H70.out
            clear hK K
            (try simp only [Act.put, List.setIfInBounds_toArray, List.set_cons_zero, List.set_cons_succ])
            refine wpAnyH_ready (rs := [12]) (by kernel_rfl) (by simp) ?_
            refine' (AllReadyH.cons (o := _) ?hir71_12 (fun K hK => ?br71_12) AllReadyH.nil)
            case hir71_12 => (simp only [List.getElem?_toArray, List.getElem?_cons_succ, List.getElem?_cons_zero]; rfl)
            case br71_12 =>
              go_simp
              refine (same_ptT H rfl P39.out P41.out _ (H.old (H.old HQ.out HB.out) H70.out)).mono ?_
              rintro e w72 ⟨rfl, hb72⟩
              have H72 := Lib.hid (H70.out.trans (hb72.mono H70.out.size))
              clear hb72
              go_wp2_with fail
              refine hK.out _ _ ?_ (fun hHeld => ?_)
              exact H72.out
              clear hK K
              (try simp only [Act.put, List.setIfInBounds_toArray, List.set_cons_zero, List.set_cons_succ])
              refine' wpAnyH_take (i := 13) (oi := _) (v := _) ?hit73 ?hst73 ?hft73 ?hrt73 ?hQt73 ?hyt73 ?hSt73 ?_
              case hit73 => (simp only [List.getElem?_toArray, List.getElem?_cons_succ, List.getElem?_cons_zero]; rfl)
              case hst73 => kernel_rfl
              case hft73 => kernel_rfl
              case hrt73 => kernel_rfl
              case hQt73 => exact fun _ _ _ h => h
              case hSt73 => assumption
              case hyt73 =>
                refine Or.inl ⟨by rfl, ?_⟩
                intro w hSw
                (try dsimp only at hSw)
                go_simp
                all_goals (with_reducible rfl)
              (try simp only [Act.put, List.setIfInBounds_toArray, List.set_cons_zero, List.set_cons_succ])
              refine' wpAnyH_take (i := 14) (oi := _) (v := _) ?hit74 ?hst74 ?hft74 ?hrt74 ?hQt74 ?hyt74 ?hSt74 ?_
              case hit74 => (simp only [List.getElem?_toArray, List.getElem?_cons_succ, List.getElem?_cons_zero]; rfl)
              case hst74 => kernel_rfl
              case hft74 => kernel_rfl
              case hrt74 => kernel_rfl
              case hQt74 => exact fun _ _ _ h => h
              case hSt74 => assumption
              case hyt74 =>
                refine Or.inl ⟨by rfl, ?_⟩
                intro w hSw
                (try dsimp only at hSw)
                go_simp
                all_goals (with_reducible rfl)
              (try simp only [Act.put, List.setIfInBounds_toArray, List.set_cons_zero, List.set_cons_succ])
              refine' wpAnyH_take (i := 15) (oi := _) (v := .agg cu0) ?hit75 ?hst75 ?hft75 ?hrt75 ?hQt75 ?hyt75 ?hSt75 ?_
              case hit75 => (simp only [List.getElem?_toArray, List.getElem?_cons_succ, List.getElem?_cons_zero]; rfl)
              case hst75 => kernel_rfl
              case hft75 => kernel_rfl
              case hrt75 => kernel_rfl
              case hQt75 => exact fun _ _ _ h => h
              case hSt75 => assumption
              case hyt75 =>
                refine Or.inl ⟨by rfl, ?_⟩
                intro W hS
                exact quiet_load_row 30 (.tmp 5) _ rfl 30 cu0 _ (E0.out.old hS) Tryd.underlying30 rfl ou0.out.1 rfl
              (try simp only [Act.put, List.setIfInBounds_toArray, List.set_cons_zero, List.set_cons_succ])
              refine' wpAnyH_take (i := 16) (oi := _) (v := .agg cu0) ?hit76 ?hst76 ?hft76 ?hrt76 ?hQt76 ?hyt76 ?hSt76 ?_
              case hit76 => (simp only [List.getElem?_toArray, List.getElem?_cons_succ, List.getElem?_cons_zero]; rfl)
              case hst76 => kernel_rfl
              case hft76 => kernel_rfl
              case hrt76 => kernel_rfl
              case hQt76 => exact fun _ _ _ h => h
              case hSt76 => assumption
              case hyt76 =>
                refine Or.inl ⟨by rfl, ?_⟩
                intro W hS
                exact quiet_load_row 30 (.tmp 5) _ rfl 30 cu0 _ (E0.out.old hS) Tryd.underlying30 rfl ou0.out.1 rfl
              (try simp only [Act.put, List.setIfInBounds_toArray, List.set_cons_zero, List.set_cons_succ])
              refine' wpAnyH_take (i := 18) (oi := _) (v := .agg cf0) ?hit77 ?hst77 ?hft77 ?hrt77 ?hQt77 ?hyt77 ?hSt77 ?_
              case hit77 => (simp only [List.getElem?_toArray, List.getElem?_cons_succ, List.getElem?_cons_zero]; rfl)
              case hst77 => kernel_rfl
              case hft77 => kernel_rfl
              case hrt77 => kernel_rfl
              case hQt77 => exact fun _ _ _ h => h
              case hSt77 => assumption
              case hyt77 =>
                refine Or.inl ⟨by rfl, ?_⟩
                intro W hS
                exact quiet_load_row 37 (.tmp 6) _ rfl 37 cf0 _ (F0.out.old hS) Tryd.underlying37 rfl of0.out.1 rfl
              (try simp only [Act.put, List.setIfInBounds_toArray, List.set_cons_zero, List.set_cons_succ])
              refine' wpAnyH_take (i := 19) (oi := _) (v := .agg cf0) ?hit78 ?hst78 ?hft78 ?hrt78 ?hQt78 ?hyt78 ?hSt78 ?_
              case hit78 => (simp only [List.getElem?_toArray, List.getElem?_cons_succ, List.getElem?_cons_zero]; rfl)
              case hst78 => kernel_rfl
              case hft78 => kernel_rfl
              case hrt78 => kernel_rfl
              case hQt78 => exact fun _ _ _ h => h
              case hSt78 => assumption
              case hyt78 =>
                refine Or.inl ⟨by rfl, ?_⟩
                intro W hS
                exact quiet_load_row 37 (.tmp 6) _ rfl 37 cf0 _ (F0.out.old hS) Tryd.underlying37 rfl of0.out.1 rfl
              (try simp only [Act.put, List.setIfInBounds_toArray, List.set_cons_zero, List.set_cons_succ])
              refine wpAnyH_ready (rs := [17]) (by kernel_rfl) (by simp) ?_
              refine' (AllReadyH.cons (o := _) ?hir79_17 (fun K hK => ?br79_17) AllReadyH.nil)
              case hir79_17 => (simp only [List.getElem?_toArray, List.getElem?_cons_succ, List.getElem?_cons_zero]; rfl)
              case br79_17 =>
                go_simp
                refine (H.add _ PU0.out PU0.out (H.old (H.old HQ.out HB.out) H72.out)).mono ?_
                rintro e w80 ⟨c47, rfl, hp80, hb80⟩
                have P47 := Lib.hid hp80
                have H80 := Lib.hid (H72.out.trans (hb80.mono H72.out.size))
                clear hp80 hb80
                go_wp2_with fail
                refine hK.out _ _ ?_ (fun hHeld => ?_)
                exact H80.out
                clear hK K
                (try simp only [Act.put, List.setIfInBounds_toArray, List.set_cons_zero, List.set_cons_succ])
                refine wpAnyH_ready (rs := [20]) (by kernel_rfl) (by simp) ?_
                refine' (AllReadyH.cons (o := _) ?hir81_20 (fun K hK => ?br81_20) AllReadyH.nil)
                case hir81_20 => (simp only [List.getElem?_toArray, List.getElem?_cons_succ, List.getElem?_cons_zero]; rfl)
                case br81_20 =>
                  go_simp
                  refine (refAddPt_any PF0.out PF0.out _).mono ?_
                  rintro e w82 ⟨c50, rfl, hp82, hb82⟩
                  have P50 := Lib.hid hp82
                  have H82 := Lib.hid (H80.out.trans (hb82.mono H80.out.size))
                  clear hp82 hb82
                  go_wp2_with fail
                  refine hK.out _ _ ?_ (fun hHeld => ?_)
                  exact H82.out
                  clear hK K
                  (try simp only [Act.put, List.setIfInBounds_toArray, List.set_cons_zero, List.set_cons_succ])
                  refine wpAnyH_ready (rs := [21]) (by kernel_rfl) (by simp) ?_
                  refine' (AllReadyH.cons (o := _) ?hir83_21 (fun K hK => ?br83_21) AllReadyH.nil)
                  case hir83_21 => (simp only [List.getElem?_toArray, List.getElem?_cons_succ, List.getElem?_cons_zero]; rfl)
                  case br83_21 =>
                    go_simp
                    refine (same_ptT H rfl P47.out P50.out _ (H.old (H.old HQ.out HB.out) H82.out)).mono ?_
                    rintro e w84 ⟨rfl, hb84⟩
                    have H84 := Lib.hid (H82.out.trans (hb84.mono H82.out.size))
                    clear hb84
                    go_wp2_with fail
                    refine hK.out _ _ ?_ (fun hHeld => ?_)
                    exact H84.out
                    clear hK K
                    (try simp only [Act.put, List.setIfInBounds_toArray, List.set_cons_zero, List.set_cons_succ])
                    refine' wpAnyH_take (i := 22) (oi := _) (v := _) ?hit85 ?hst85 ?hft85 ?hrt85 ?hQt85 ?hyt85 ?hSt85 ?_
                    case hit85 => (simp only [List.getElem?_toArray, List.getElem?_cons_succ, List.getElem?_cons_zero]; rfl)
                    case hst85 => kernel_rfl
                    case hft85 => kernel_rfl
                    case hrt85 => kernel_rfl
                    case hQt85 => exact fun _ _ _ h => h
                    case hSt85 => assumption
                    case hyt85 =>
                      refine Or.inl ⟨by rfl, ?_⟩
                      intro w hSw
                      (try dsimp only at hSw)
                      go_simp
                      all_goals (with_reducible rfl)
                    (try simp only [Act.put, List.setIfInBounds_toArray, List.set_cons_zero, List.set_cons_succ])
                    refine' wpAnyH_take (i := 23) (oi := _) (v := _) ?hit86 ?hst86 ?hft86 ?hrt86 ?hQt86 ?hyt86 ?hSt86 ?_
                    case hit86 => (simp only [List.getElem?_toArray, List.getElem?_cons_succ, List.getElem?_cons_zero]; rfl)
                    case hst86 => kernel_rfl
                    case hft86 => kernel_rfl
                    case hrt86 => kernel_rfl
                    case hQt86 => exact fun _ _ _ h => h
                    case hSt86 => assumption
                    case hyt86 =>
                      refine Or.inl ⟨by rfl, ?_⟩
                      intro w hSw
                      (try dsimp only at hSw)
                      go_simp
                      all_goals (with_reducible rfl)
                    (try simp only [Act.put, List.setIfInBounds_toArray, List.set_cons_zero, List.set_cons_succ])
                    refine' wpAnyH_take (i := 24) (oi := _) (v := .agg cu0) ?hit87 ?hst87 ?hft87 ?hrt87 ?hQt87 ?hyt87 ?hSt87 ?_
                    case hit87 => (simp only [List.getElem?_toArray, List.getElem?_cons_succ, List.getElem?_cons_zero]; rfl)
                    case hst87 => kernel_rfl
                    case hft87 => kernel_rfl
                    case hrt87 => kernel_rfl
                    case hQt87 => exact fun _ _ _ h => h
                    case hSt87 => assumption
                    case hyt87 =>
                      refine Or.inl ⟨by rfl, ?_⟩
                      intro W hS
                      exact quiet_load_row 30 (.tmp 5) _ rfl 30 cu0 _ (E0.out.old hS) Tryd.underlying30 rfl ou0.out.1 rfl
                    (try simp only [Act.put, List.setIfInBounds_toArray, List.set_cons_zero, List.set_cons_succ])
                    refine' wpAnyH_take (i := 25) (oi := _) (v := .agg cu1) ?hit88 ?hst88 ?hft88 ?hrt88 ?hQt88 ?hyt88 ?hSt88 ?_
                    case hit88 => (simp only [List.getElem?_toArray, List.getElem?_cons_succ, List.getElem?_cons_zero]; rfl)
                    case hst88 => kernel_rfl
                    case hft88 => kernel_rfl
                    case hrt88 => kernel_rfl
                    case hQt88 => exact fun _ _ _ h => h
                    case hSt88 => assumption
                    case hyt88 =>
                      refine Or.inl ⟨by rfl, ?_⟩
                      intro W hS
                      exact quiet_load_row 30 (.tmp 8) _ rfl 30 cu1 _ (E1.out.old hS) Tryd.underlying30 rfl ou1.out.1 rfl
                    (try simp only [Act.put, List.setIfInBounds_toArray, List.set_cons_zero, List.set_cons_succ])
                    refine' wpAnyH_take (i := 27) (oi := _) (v := .agg ca0) ?hit89 ?hst89 ?hft89 ?hrt89 ?hQt89 ?hyt89 ?hSt89 ?_
                    case hit89 => (simp only [List.getElem?_toArray, List.getElem?_cons_succ, List.getElem?_cons_zero]; rfl)
                    case hst89 => kernel_rfl
                    case hft89 => kernel_rfl
                    case hrt89 => kernel_rfl
                    case hQt89 => exact fun _ _ _ h => h
                    case hSt89 => assumption
                    case hyt89 =>
                      refine Or.inl ⟨by rfl, ?_⟩
                      intro W hS
                      exact quiet_load_row 40 (.tmp 2) _ rfl 40 ca0 _ (X0.out.old hS) Tryd.underlying40 rfl hia0.out rfl
                    (try simp only [Act.put, List.setIfInBounds_toArray, List.set_cons_zero, List.set_cons_succ])
                    refine' wpAnyH_take (i := 28) (oi := _) (v := .agg ca1) ?hit90 ?hst90 ?hft90 ?hrt90 ?hQt90 ?hyt90 ?hSt90 ?_
                    case hit90 => (simp only [List.getElem?_toArray, List.getElem?_cons_succ, List.getElem?_cons_zero]; rfl)
                    case hst90 => kernel_rfl
                    case hft90 => kernel_rfl
                    case hrt90 => kernel_rfl
                    case hQt90 => exact fun _ _ _ h => h
                    case hSt90 => assumption
                    case hyt90 =>
                      refine Or.inl ⟨by rfl, ?_⟩
                      intro W hS
                      exact quiet_load_row 40 (.tmp 3) _ rfl 40 ca1 _ (X1.out.old hS) Tryd.underlying40 rfl hia1.out rfl
                    (try simp only [Act.put, List.setIfInBounds_toArray, List.set_cons_zero, List.set_cons_succ])
                    refine' wpAnyH_take (i := 29) (oi := _) (v := .bool q) ?hit91 ?hst91 ?hft91 ?hrt91 ?hQt91 ?hyt91 ?hSt91 ?_
                    case hit91 => (simp only [List.getElem?_toArray, List.getElem?_cons_succ, List.getElem?_cons_zero]; rfl)
                    case hst91 => kernel_rfl
                    case hft91 => kernel_rfl
                    case hrt91 => kernel_rfl
                    case hQt91 => exact fun _ _ _ h => h
                    case hSt91 => assumption
                    case hyt91 =>
                      refine Or.inl ⟨by rfl, ?_⟩
                      intro W hS
                      rw [hq.out]; exact quiet_eql_bytes7 W (.tmp 57) (.tmp 58) _ (fbytes v0) (fbytes v1) (fbytes_length _) (fbytes_length _) (congrArg Value.agg hca0.out) (congrArg Value.agg hca1.out) rfl
                    (try simp only [Act.put, List.setIfInBounds_toArray, List.set_cons_zero, List.set_cons_succ])
                    refine wpAnyH_ready (rs := [26]) (by kernel_rfl) (by simp) ?_
                    refine' (AllReadyH.cons (o := _) ?hir92_26 (fun K hK => ?br92_26) AllReadyH.nil)
                    case hir92_26 => (simp only [List.getElem?_toArray, List.getElem?_cons_succ, List.getElem?_cons_zero]; rfl)
                    case br92_26 =>
                      go_simp
                      refine (CS.out _ (H.old (H.old HQ.out HB.out) H84.out)).mono ?_
                      rintro e w93 ⟨rfl, hb93⟩
                      have H93 := Lib.hid (H84.out.trans (hb93.mono H84.out.size))
                      clear hb93
                      go_wp2_with fail
                      refine hK.out _ _ ?_ (fun hHeld => ?_)
                      exact H93.out
                      clear hK K
                      (try simp only [Act.put, List.setIfInBounds_toArray, List.set_cons_zero, List.set_cons_succ])
                      refine' wpAnyH_take (i := 30) (oi := _) (v := _) ?hit94 ?hst94 ?hft94 ?hrt94 ?hQt94 ?hyt94 ?hSt94 ?_
                      case hit94 => (simp only [List.getElem?_toArray, List.getElem?_cons_succ, List.getElem?_cons_zero]; rfl)
                      case hst94 => kernel_rfl
                      case hft94 => kernel_rfl
                      case hrt94 => kernel_rfl
                      case hQt94 => exact fun _ _ _ h => h
                      case hSt94 => assumption
                      case hyt94 =>
                        refine Or.inl ⟨by rfl, ?_⟩
                        intro w hSw
                        (try dsimp only at hSw)
                        go_simp
                        all_goals (with_reducible rfl)
                      (try simp only [Act.put, List.setIfInBounds_toArray, List.set_cons_zero, List.set_cons_succ])
                      refine' wpAnyH_take (i := 31) (oi := _) (v := _) ?hit95 ?hst95 ?hft95 ?hrt95 ?hQt95 ?hyt95 ?hSt95 ?_
                      case hit95 => (simp only [List.getElem?_toArray, List.getElem?_cons_succ, List.getElem?_cons_zero]; rfl)
                      case hst95 => kernel_rfl
                      case hft95 => kernel_rfl
                      case hrt95 => kernel_rfl
                      case hQt95 => exact fun _ _ _ h => h
                      case hSt95 => assumption
                      case hyt95 =>
                        refine Or.inl ⟨by rfl, ?_⟩
                        intro w hSw
                        (try dsimp only at hSw)
                        go_simp
                        all_goals (with_reducible rfl)
                      (try simp only [Act.put, List.setIfInBounds_toArray, List.set_cons_zero, List.set_cons_succ])
                      refine' wpAnyH_take (i := 32) (oi := _) (v := _) ?hit96 ?hst96 ?hft96 ?hrt96 ?hQt96 ?hyt96 ?hSt96 ?_
                      case hit96 => (simp only [List.getElem?_toArray, List.getElem?_cons_succ, List.getElem?_cons_zero]; rfl)
                      case hst96 => kernel_rfl
                      case hft96 => kernel_rfl
                      case hrt96 => kernel_rfl
                      case hQt96 => exact fun _ _ _ h => h
                      case hSt96 => assumption
                      case hyt96 =>
                        refine Or.inl ⟨by rfl, ?_⟩
                        intro w hSw
                        (try dsimp only at hSw)
                        go_simp
                        all_goals (with_reducible rfl)
                      (try simp only [Act.put, List.setIfInBounds_toArray, List.set_cons_zero, List.set_cons_succ])
                      refine wpAnyH_ready (rs := [33]) (by kernel_rfl) (by simp) ?_
                      refine' (AllReadyH.cons (o := _) ?hir97_33 (fun K hK => ?br97_33) AllReadyH.nil)
                      case hir97_33 => (simp only [List.getElem?_toArray, List.getElem?_cons_succ, List.getElem?_cons_zero]; rfl)
                      case br97_33 =>
                        go_simp
                        refine (awake7_any H _ (H.old (H.old HQ.out HB.out) H93.out)).mono ?_
                        rintro e w98 ⟨rfl, hb98⟩
                        have H98 := Lib.hid (H93.out.trans (hb98.mono H93.out.size))
                        clear hb98
                        go_wp2_with fail
                        refine hK.out _ _ ?_ (fun hHeld => ?_)
                        exact H98.out
                        clear hK K
                        (try simp only [Act.put, List.setIfInBounds_toArray, List.set_cons_zero, List.set_cons_succ])
                        refine' wpAnyH_take (i := 34) (oi := _) (v := _) ?hit99 ?hst99 ?hft99 ?hrt99 ?hQt99 ?hyt99 ?hSt99 ?_
                        case hit99 => (simp only [List.getElem?_toArray, List.getElem?_cons_succ, List.getElem?_cons_zero]; rfl)
                        case hst99 => kernel_rfl
                        case hft99 => kernel_rfl
                        case hrt99 => kernel_rfl
                        case hQt99 => exact fun _ _ _ h => h
                        case hSt99 => assumption
                        case hyt99 =>
                          refine Or.inl ⟨by rfl, ?_⟩
                          intro w hSw
                          (try dsimp only at hSw)
                          go_simp
                          all_goals (with_reducible rfl)
                        (try simp only [Act.put, List.setIfInBounds_toArray, List.set_cons_zero, List.set_cons_succ])
                        refine' wpAnyH_take (i := 35) (oi := _) (v := _) ?hit100 ?hst100 ?hft100 ?hrt100 ?hQt100 ?hyt100 ?hSt100 ?_
                        case hit100 => (simp only [List.getElem?_toArray, List.getElem?_cons_succ, List.getElem?_cons_zero]; rfl)
                        case hst100 => kernel_rfl
                        case hft100 => kernel_rfl
                        case hrt100 => kernel_rfl
                        case hQt100 => exact fun _ _ _ h => h
                        case hSt100 => assumption
                        case hyt100 =>
                          refine Or.inl ⟨by rfl, ?_⟩
                          intro w hSw
                          (try dsimp only at hSw)
                          go_simp
                          all_goals (with_reducible rfl)
                        (try simp only [Act.put, List.setIfInBounds_toArray, List.set_cons_zero, List.set_cons_succ])
                        refine wpAnyH_done (by kernel_rfl) ?_ _
                        have hbe := Lib.hid (HB.out.trans (H98.out.mono HB.out.size))
                        clear hHeld
                        go_wp2_with fail
                        go_ret
                        exact ⟨rfl, hbe.out⟩
end Go.Proofs.YtjiadbaaggifpaaDoor
