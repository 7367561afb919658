/-
  Several texts in one: PtAdd, PtTimes, PtSum, PtBytes, PtGet, PtOk, PtSame, PtAwake, PtTwo, PtLawsW, PtM, PtE. Conditions: those that each theorem states.
-/
import Derived.Test.YtjiadbaaggifpaaDoorM2

section
set_option linter.unusedVariables false
set_option linter.unusedSimpArgs false
namespace Go.Proofs.YtjiadbaaggifpaaDoor
open Go Go.Proofs Go.RowKit F5

theorem four_new (w : World) (a b c d : Array Value) (T1 T2 T3 T4 : TypeId) : Blk ((((w.alloc (.cells a T1)).alloc (.cells b T2)).alloc (.cells c T3)).alloc (.cells d T4)) w.heap.size T1 a ∧
    Blk ((((w.alloc (.cells a T1)).alloc (.cells b T2)).alloc (.cells c T3)).alloc (.cells d T4)) (w.heap.size + 1) T2 b ∧
    Blk ((((w.alloc (.cells a T1)).alloc (.cells b T2)).alloc (.cells c T3)).alloc (.cells d T4)) (w.heap.size + 1 + 1) T3 c ∧
    Blk ((((w.alloc (.cells a T1)).alloc (.cells b T2)).alloc (.cells c T3)).alloc (.cells d T4)) (w.heap.size + 1 + 1 + 1) T4 d ∧
    Below w.heap.size w ((((w.alloc (.cells a T1)).alloc (.cells b T2)).alloc (.cells c T3)).alloc (.cells d T4)) := by
  have s1 : (w.alloc (.cells a T1)).heap.size = w.heap.size + 1 := by simp
  have s2 : ((w.alloc (.cells a T1)).alloc (.cells b T2)).heap.size = w.heap.size + 1 + 1 := by simp
  have s3 : (((w.alloc (.cells a T1)).alloc (.cells b T2)).alloc (.cells c T3)).heap.size = w.heap.size + 1 + 1 + 1 := by simp
  refine ⟨(((Blk.new w _ a).alloc _).alloc _).alloc _, ?_, ?_, ?_, ((((Below.refl _ _).alloc (Nat.le_refl _) _).alloc (by simp) _).alloc (by simp; omega) _).alloc (by simp; omega) _⟩
  · rw [← s1]; exact ((Blk.new _ _ b).alloc _).alloc _
  · rw [← s2]; exact (Blk.new _ _ c).alloc _
  · rw [← s3]; exact Blk.new _ _ d

set_option maxHeartbeats 2000000 in
set_option maxRecDepth 100000 in
theorem refAdd_P (x1 y1 z1 x2 y2 z2 d a b c e f g h k r1 r2 r3 : Fp) (ha : z1 * z2 = a) (hb : a * a = b) (hc : x1 * x2 = c) (he : y1 * y2 = e) (hf : d * c * e = f) (hg : b - f = g) (hh : b + f = h)
    (hk : (x1 + y1) * (x2 + y2) - c - e = k) (h1 : a * g * k = r1) (h2 : a * h * (e + c) = r2) (h3 : g * h = r3) (w : World) :
    Calls Tryd.prog 44 #[.agg (pV x1 y1 z1), .agg (pV x2 y2 z2), .agg (cF d)] w fun e w' => e = .returned (.agg (pV r1 r2 r3)) ∧ Below w.heap.size w w' := by
  have MUL (p q r : Fp) (h : p * q = r) : Hid (∀ V, Calls Tryd.prog 49 #[.agg (cF p), .agg (cF q)] V fun e w' => e = .returned (.agg (cF r)) ∧ Below V.heap.size V w') := Lib.hid fun V => by rw [← h]; exact rMul _ _ V
  have SUB (p q r : Fp) (h : p - q = r) : Hid (∀ V, Calls Tryd.prog 61 #[.agg (cF p), .agg (cF q)] V fun e w' => e = .returned (.agg (cF r)) ∧ Below V.heap.size V w') := Lib.hid fun V => by rw [← h]; exact rSub _ _ V
  have ADD (p q r : Fp) (h : p + q = r) : Hid (∀ V, Calls Tryd.prog 60 #[.agg (cF p), .agg (cF q)] V fun e w' => e = .returned (.agg (cF r)) ∧ Below V.heap.size V w') := Lib.hid fun V => by rw [← h]; exact rAdd _ _ V
  have C7 := MUL _ _ _ ha
  have C8 := MUL _ _ _ hb
  have C9 := MUL _ _ _ hc
  have C10 := MUL _ _ _ he
  have C11 := MUL _ _ _ hf
  have C12 := SUB _ _ _ hg
  have C13 := ADD _ _ _ hh
  have C14 := SUB _ _ _ hk
  have C63 := MUL _ _ _ h1
  have C70 := MUL _ _ _ h2
  have C73 := MUL _ _ _ h3
  clear MUL SUB ADD ha hb hc he hf hg hh hk h1 h2 h3
  obtain ⟨z, hz⟩ : ∃ z, Hid (z = pV 0 0 0) := ⟨_, Lib.hid rfl⟩
  have hz0 : ∀ W, (zeroValue 37).run Tryd.prog W = .ok (.agg z) W := by rw [hz.out]; exact zeroP
  obtain ⟨zf, hzf⟩ : ∃ z, Hid (z = cF 0) := ⟨_, Lib.hid rfl⟩
  have hzf0 : ∀ W, (zeroValue 35).run Tryd.prog W = .ok (.agg zf) W := by rw [hzf.out]; exact zeroF
  have of : Hid (∀ a : Fp, zf.size = (cF a).size) := Lib.hid (fun a => by rw [hzf.out]; exact cF_sz _ _)
  have hBu := Lib.hid (built_P r1 r2 r3)
  have ok := Lib.hid (pV_ok r1 r2 r3)
  rw [← hz.out] at ok
  generalize pV r1 r2 r3 = R at *
  have KX := Lib.hid (fun (V : World) g T (h : Blk V g T (pV x1 y1 z1)) => pV_x h)
  have KY := Lib.hid (fun (V : World) g T (h : Blk V g T (pV x1 y1 z1)) => pV_y h)
  have KZ := Lib.hid (fun (V : World) g T (h : Blk V g T (pV x1 y1 z1)) => pV_z h)
  generalize pV x1 y1 z1 = A at *
  have LX := Lib.hid (fun (V : World) g T (h : Blk V g T (pV x2 y2 z2)) => pV_x h)
  have LY := Lib.hid (fun (V : World) g T (h : Blk V g T (pV x2 y2 z2)) => pV_y h)
  have LZ := Lib.hid (fun (V : World) g T (h : Blk V g T (pV x2 y2 z2)) => pV_z h)
  generalize pV x2 y2 z2 = B at *
  obtain ⟨a1, a2, a3, a4, a5⟩ := four_new w A B (cF d) z 37 37 35 37
  clear hz hzf
  go_enter Tryd.func44, Tryd.ntmps44
  go_upto_region 1 with fail
  generalize (((w.alloc (.cells A 37)).alloc (.cells B 37)).alloc (.cells (cF d) 35)).alloc (.cells z 37) = W at *
  have A1 := Lib.hid a1
  have A2 := Lib.hid a2
  have D5 := Lib.hid a3
  have Z6 := Lib.hid a4
  have HB := Lib.hid a5
  clear a1 a2 a3 a4 a5
  (try simp only [Act.put, List.setIfInBounds_toArray, List.set_cons_zero, List.set_cons_succ])
  have zlt : Hid (w.heap.size + 1 + 1 + 1 < W.heap.size) := Lib.hid Z6.out.lt
  go_upto_region 2 with (first | (refine wpList_load_at rfl 35 (.tmp 15) rfl w.heap.size 32 rfl 24 16 (cF z1) Tryd.underlying35 (cF_ok _).1 (KZ.out _ _ _ A1.out) ?_) | (refine wpList_load_at rfl 35 (.tmp 17) rfl (w.heap.size + 1) 32 rfl 24 16 (cF z2) Tryd.underlying35 (cF_ok _).1 (LZ.out _ _ _ A2.out) ?_))
  refine (C7.out _).mono ?_
  rintro e w1 ⟨rfl, hb⟩
  have A1 := Lib.hid ((A1.out.old hb).alloc (.cells (cF a) 35))
  have A2 := Lib.hid ((A2.out.old hb).alloc (.cells (cF a) 35))
  have D5 := Lib.hid ((D5.out.old hb).alloc (.cells (cF a) 35))
  have Z6 := Lib.hid ((Z6.out.old hb).alloc (.cells (cF a) 35))
  have HB := Lib.hid ((HB.out.trans (hb.mono HB.out.size)).alloc (HB.out.trans (hb.mono HB.out.size)).size (.cells (cF a) 35))
  have L7 : Hid (w.heap.size + 1 + 1 + 1 < w1.heap.size) := Lib.hid (Nat.lt_of_lt_of_le zlt.out hb.size)
  have X7 := Lib.hid (Blk.new w1 35 (cF a))
  clear hb
  go_upto_region 2 with (first | (refine wpList_store_row rfl 35 (.tmp 7) (.tmp 19) rfl w1.heap.size (cF a) rfl rfl 35 _ (heap_alloc_new w1 _) (cF_ok _).1 (of.out _) (cF_ok _).2 ?_; rw [setRow_alloc1]))
  generalize w1.alloc (.cells (cF a) 35) = W7 at *
  generalize w1.heap.size = g7 at *
  (try simp only [Act.put, List.setIfInBounds_toArray, List.set_cons_zero, List.set_cons_succ])
  have zlt : Hid (w.heap.size + 1 + 1 + 1 < W7.heap.size) := Lib.hid Z6.out.lt
  go_upto_region 3 with (first | (refine wpList_load_row rfl 35 (.tmp 7) rfl g7 rfl 35 (cF a) (0, 0) _ X7.out Tryd.underlying35 rfl (cF_ok _).1 ?_))
  refine (C8.out _).mono ?_
  rintro e w2 ⟨rfl, hb⟩
  have A1 := Lib.hid ((A1.out.old hb).alloc (.cells (cF b) 35))
  have A2 := Lib.hid ((A2.out.old hb).alloc (.cells (cF b) 35))
  have D5 := Lib.hid ((D5.out.old hb).alloc (.cells (cF b) 35))
  have Z6 := Lib.hid ((Z6.out.old hb).alloc (.cells (cF b) 35))
  have X7 := Lib.hid ((X7.out.old hb).alloc (.cells (cF b) 35))
  have HB := Lib.hid ((HB.out.trans (hb.mono HB.out.size)).alloc (HB.out.trans (hb.mono HB.out.size)).size (.cells (cF b) 35))
  have L8 : Hid (w.heap.size + 1 + 1 + 1 < w2.heap.size) := Lib.hid (Nat.lt_of_lt_of_le zlt.out hb.size)
  have X8 := Lib.hid (Blk.new w2 35 (cF b))
  clear hb
  go_upto_region 3 with (first | (refine wpList_store_row rfl 35 (.tmp 8) (.tmp 22) rfl w2.heap.size (cF b) rfl rfl 35 _ (heap_alloc_new w2 _) (cF_ok _).1 (of.out _) (cF_ok _).2 ?_; rw [setRow_alloc1]))
  generalize w2.alloc (.cells (cF b) 35) = W8 at *
  generalize w2.heap.size = g8 at *
  (try simp only [Act.put, List.setIfInBounds_toArray, List.set_cons_zero, List.set_cons_succ])
  have zlt : Hid (w.heap.size + 1 + 1 + 1 < W8.heap.size) := Lib.hid Z6.out.lt
  go_upto_region 4 with (first | (refine wpList_load_at rfl 35 (.tmp 23) rfl w.heap.size 0 rfl 24 16 (cF x1) Tryd.underlying35 (cF_ok _).1 (KX.out _ _ _ A1.out) ?_) | (refine wpList_load_at rfl 35 (.tmp 25) rfl (w.heap.size + 1) 0 rfl 24 16 (cF x2) Tryd.underlying35 (cF_ok _).1 (LX.out _ _ _ A2.out) ?_))
  refine (C9.out _).mono ?_
  rintro e w3 ⟨rfl, hb⟩
  have A1 := Lib.hid ((A1.out.old hb).alloc (.cells (cF c) 35))
  have A2 := Lib.hid ((A2.out.old hb).alloc (.cells (cF c) 35))
  have D5 := Lib.hid ((D5.out.old hb).alloc (.cells (cF c) 35))
  have Z6 := Lib.hid ((Z6.out.old hb).alloc (.cells (cF c) 35))
  have X7 := Lib.hid ((X7.out.old hb).alloc (.cells (cF c) 35))
  have X8 := Lib.hid ((X8.out.old hb).alloc (.cells (cF c) 35))
  have HB := Lib.hid ((HB.out.trans (hb.mono HB.out.size)).alloc (HB.out.trans (hb.mono HB.out.size)).size (.cells (cF c) 35))
  have L9 : Hid (w.heap.size + 1 + 1 + 1 < w3.heap.size) := Lib.hid (Nat.lt_of_lt_of_le zlt.out hb.size)
  have X9 := Lib.hid (Blk.new w3 35 (cF c))
  clear hb
  go_upto_region 4 with (first | (refine wpList_store_row rfl 35 (.tmp 9) (.tmp 27) rfl w3.heap.size (cF c) rfl rfl 35 _ (heap_alloc_new w3 _) (cF_ok _).1 (of.out _) (cF_ok _).2 ?_; rw [setRow_alloc1]))
  generalize w3.alloc (.cells (cF c) 35) = W9 at *
  generalize w3.heap.size = g9 at *
  (try simp only [Act.put, List.setIfInBounds_toArray, List.set_cons_zero, List.set_cons_succ])
  have zlt : Hid (w.heap.size + 1 + 1 + 1 < W9.heap.size) := Lib.hid Z6.out.lt
  go_upto_region 5 with (first | (refine wpList_load_at rfl 35 (.tmp 28) rfl w.heap.size 16 rfl 24 16 (cF y1) Tryd.underlying35 (cF_ok _).1 (KY.out _ _ _ A1.out) ?_) | (refine wpList_load_at rfl 35 (.tmp 30) rfl (w.heap.size + 1) 16 rfl 24 16 (cF y2) Tryd.underlying35 (cF_ok _).1 (LY.out _ _ _ A2.out) ?_))
  refine (C10.out _).mono ?_
  rintro e w4 ⟨rfl, hb⟩
  have A1 := Lib.hid ((A1.out.old hb).alloc (.cells (cF e) 35))
  have A2 := Lib.hid ((A2.out.old hb).alloc (.cells (cF e) 35))
  have D5 := Lib.hid ((D5.out.old hb).alloc (.cells (cF e) 35))
  have Z6 := Lib.hid ((Z6.out.old hb).alloc (.cells (cF e) 35))
  have X7 := Lib.hid ((X7.out.old hb).alloc (.cells (cF e) 35))
  have X8 := Lib.hid ((X8.out.old hb).alloc (.cells (cF e) 35))
  have X9 := Lib.hid ((X9.out.old hb).alloc (.cells (cF e) 35))
  have HB := Lib.hid ((HB.out.trans (hb.mono HB.out.size)).alloc (HB.out.trans (hb.mono HB.out.size)).size (.cells (cF e) 35))
  have L10 : Hid (w.heap.size + 1 + 1 + 1 < w4.heap.size) := Lib.hid (Nat.lt_of_lt_of_le zlt.out hb.size)
  have X10 := Lib.hid (Blk.new w4 35 (cF e))
  clear hb
  go_upto_region 5 with (first | (refine wpList_store_row rfl 35 (.tmp 10) (.tmp 32) rfl w4.heap.size (cF e) rfl rfl 35 _ (heap_alloc_new w4 _) (cF_ok _).1 (of.out _) (cF_ok _).2 ?_; rw [setRow_alloc1]))
  generalize w4.alloc (.cells (cF e) 35) = W10 at *
  generalize w4.heap.size = g10 at *
  (try simp only [Act.put, List.setIfInBounds_toArray, List.set_cons_zero, List.set_cons_succ])
  have zlt : Hid (w.heap.size + 1 + 1 + 1 < W10.heap.size) := Lib.hid Z6.out.lt
  go_cut [11] (fun v wx => ∃ g11, v = .pointer (some ⟨g11, 0, none⟩) ∧ Blk wx g11 35 (cF f) ∧ Blk wx w.heap.size 37 A ∧ Blk wx (w.heap.size + 1) 37 B ∧ Blk wx (w.heap.size + 1 + 1 + 1) 37 z ∧ Blk wx g7 35 (cF a) ∧ Blk wx g8 35 (cF b) ∧ Blk wx g9 35 (cF c) ∧ Blk wx g10 35 (cF e) ∧ Below w.heap.size w wx ∧ w.heap.size + 1 + 1 + 1 < g11)
  case first =>
    refine wp_region_held_drew (S := fun V => Below W10.heap.size W10 V) (by kernel_rfl) ((Below.refl _ _).drew) (fun hHeld => ?_)
    have HBW10 := Lib.hid ((Below.refl W10.heap.size W10).drew)
    generalize W10.drew = VW10 at *
    refine' wpAnyH_take (i := 0) (oi := _) (v := .agg (cF d)) ?hit1 ?hst1 ?hft1 ?hrt1 ?hQt1 ?hyt1 ?hSt1 ?_
    case hit1 => (simp only [List.getElem?_toArray, List.getElem?_cons_succ, List.getElem?_cons_zero]; rfl)
    case hst1 => kernel_rfl
    case hft1 => kernel_rfl
    case hrt1 => kernel_rfl
    case hQt1 => exact fun _ _ _ h => h
    case hSt1 => assumption
    case hyt1 =>
      refine Or.inl ⟨by rfl, ?_⟩
      intro W hS
      exact quiet_load_row 35 (.tmp 5) _ rfl 35 (cF d) _ (D5.out.old hS) Tryd.underlying35 rfl (cF_ok _).1 rfl
    (try simp only [Act.put, List.setIfInBounds_toArray, List.set_cons_zero, List.set_cons_succ])
    refine' wpAnyH_take (i := 1) (oi := _) (v := .agg (cF c)) ?hit2 ?hst2 ?hft2 ?hrt2 ?hQt2 ?hyt2 ?hSt2 ?_
    case hit2 => (simp only [List.getElem?_toArray, List.getElem?_cons_succ, List.getElem?_cons_zero]; rfl)
    case hst2 => kernel_rfl
    case hft2 => kernel_rfl
    case hrt2 => kernel_rfl
    case hQt2 => exact fun _ _ _ h => h
    case hSt2 => assumption
    case hyt2 =>
      refine Or.inl ⟨by rfl, ?_⟩
      intro W hS
      exact quiet_load_row 35 (.tmp 9) _ rfl 35 (cF c) _ (X9.out.old hS) Tryd.underlying35 rfl (cF_ok _).1 rfl
    (try simp only [Act.put, List.setIfInBounds_toArray, List.set_cons_zero, List.set_cons_succ])
    refine' wpAnyH_take (i := 3) (oi := _) (v := .agg (cF e)) ?hit3 ?hst3 ?hft3 ?hrt3 ?hQt3 ?hyt3 ?hSt3 ?_
    case hit3 => (simp only [List.getElem?_toArray, List.getElem?_cons_succ, List.getElem?_cons_zero]; rfl)
    case hst3 => kernel_rfl
    case hft3 => kernel_rfl
    case hrt3 => kernel_rfl
    case hQt3 => exact fun _ _ _ h => h
    case hSt3 => assumption
    case hyt3 =>
      refine Or.inl ⟨by rfl, ?_⟩
      intro W hS
      exact quiet_load_row 35 (.tmp 10) _ rfl 35 (cF e) _ (X10.out.old hS) Tryd.underlying35 rfl (cF_ok _).1 rfl
    (try simp only [Act.put, List.setIfInBounds_toArray, List.set_cons_zero, List.set_cons_succ])
    refine wpAnyH_ready (rs := [2, 5]) (by kernel_rfl) (by simp) ?_
    refine' (AllReadyH.cons (o := _) ?hir4_2 (fun K hK => ?br4_2) (AllReadyH.cons (o := _) ?hir4_5 (fun K hK => ?br4_5) AllReadyH.nil))
    case hir4_2 => (simp only [List.getElem?_toArray, List.getElem?_cons_succ, List.getElem?_cons_zero]; rfl)
    case hir4_5 => (simp only [List.getElem?_toArray, List.getElem?_cons_succ, List.getElem?_cons_zero]; rfl)
    case br4_2 =>
      go_simp
      refine (rMul _ _ _).mono ?_
      rintro e w5 ⟨rfl, hb5⟩
      have H5 := Lib.hid (HBW10.out.trans (hb5.mono HBW10.out.size))
      clear hb5
      go_wp2_with fail
      refine hK.out _ _ ?_ (fun hHeld => ?_)
      exact H5.out
      clear hK K
      (try simp only [Act.put, List.setIfInBounds_toArray, List.set_cons_zero, List.set_cons_succ])
      refine wpAnyH_ready (rs := [4, 5]) (by kernel_rfl) (by simp) ?_
      refine' (AllReadyH.cons (o := _) ?hir6_4 (fun K hK => ?br6_4) (AllReadyH.cons (o := _) ?hir6_5 (fun K hK => ?br6_5) AllReadyH.nil))
      case hir6_4 => (simp only [List.getElem?_toArray, List.getElem?_cons_succ, List.getElem?_cons_zero]; rfl)
      case hir6_5 => (simp only [List.getElem?_toArray, List.getElem?_cons_succ, List.getElem?_cons_zero]; rfl)
      case br6_4 =>
        go_simp
        refine (C11.out _).mono ?_
        rintro e w7 ⟨rfl, hb7⟩
        have H7 := Lib.hid (H5.out.trans (hb7.mono H5.out.size))
        clear hb7
        go_wp2_with fail
        refine hK.out _ _ ?_ (fun hHeld => ?_)
        exact H7.out
        clear hK K
        (try simp only [Act.put, List.setIfInBounds_toArray, List.set_cons_zero, List.set_cons_succ])
        refine wpAnyH_ready (rs := [5]) (by kernel_rfl) (by simp) ?_
        refine' (AllReadyH.cons (o := _) ?hir8_5 (fun K hK => ?br8_5) AllReadyH.nil)
        case hir8_5 => (simp only [List.getElem?_toArray, List.getElem?_cons_succ, List.getElem?_cons_zero]; rfl)
        case br8_5 =>
          go_simp
          refine hK.out _ _ ?_ (fun hHeld => ?_)
          · exact (H7.out.alloc H7.out.size _)
          have H9 := Lib.hid (H7.out.alloc H7.out.size (.cells zf 35))
          have N11_9 := Lib.hid (alloc_new H7.out 35 zf)
          have G11_9 := Lib.hid H7.out.size
          clear hK K
          (try simp only [Act.put, List.setIfInBounds_toArray, List.set_cons_zero, List.set_cons_succ])
          refine wpAnyH_ready (rs := [6]) (by kernel_rfl) (by simp) ?_
          refine' (AllReadyH.cons (o := _) ?hir10_6 (fun K hK => ?br10_6) AllReadyH.nil)
          case hir10_6 => (simp only [List.getElem?_toArray, List.getElem?_cons_succ, List.getElem?_cons_zero]; rfl)
          case br10_6 =>
            refine step_of_wp rfl ?_
            refine wp_store_row 35 (.tmp 11) (.tmp 37) rfl _ (cF f) rfl rfl 35 _ N11_9.out (cF_ok _).1 (of.out _) (cF_ok _).2 ?_
            refine hK.out _ _ ?_ (fun hHeld => ?_)
            exact below_row H9.out G11_9.out _
            clear hK K
            (try simp only [Act.put, List.setIfInBounds_toArray, List.set_cons_zero, List.set_cons_succ])
            refine wpAnyH_done (by kernel_rfl) ?_ _
            have FA1 := Lib.hid ((A1.out.old H9.out).rowFar (Nat.ne_of_lt (Nat.lt_of_lt_of_le A1.out.lt G11_9.out)) (cF f))
            have FA2 := Lib.hid ((A2.out.old H9.out).rowFar (Nat.ne_of_lt (Nat.lt_of_lt_of_le A2.out.lt G11_9.out)) (cF f))
            have FZ6 := Lib.hid ((Z6.out.old H9.out).rowFar (Nat.ne_of_lt (Nat.lt_of_lt_of_le Z6.out.lt G11_9.out)) (cF f))
            have FX7 := Lib.hid ((X7.out.old H9.out).rowFar (Nat.ne_of_lt (Nat.lt_of_lt_of_le X7.out.lt G11_9.out)) (cF f))
            have FX8 := Lib.hid ((X8.out.old H9.out).rowFar (Nat.ne_of_lt (Nat.lt_of_lt_of_le X8.out.lt G11_9.out)) (cF f))
            have FX9 := Lib.hid ((X9.out.old H9.out).rowFar (Nat.ne_of_lt (Nat.lt_of_lt_of_le X9.out.lt G11_9.out)) (cF f))
            have FX10 := Lib.hid ((X10.out.old H9.out).rowFar (Nat.ne_of_lt (Nat.lt_of_lt_of_le X10.out.lt G11_9.out)) (cF f))
            have LL6 := Lib.hid (Nat.lt_of_lt_of_le Z6.out.lt G11_9.out)
            have HF := Lib.hid (below_row (HB.out.trans (H9.out.mono HB.out.size)) (Nat.le_trans HB.out.size G11_9.out) (cF f))
            have FN11 := Lib.hid (N11_9.out.row (cF f))
            clear hHeld
            go_wp2_with fail
            go_meet
            exact ⟨_, rfl, FN11.out, FA1.out, FA2.out, FZ6.out, FX7.out, FX8.out, FX9.out, FX10.out, HF.out, LL6.out⟩
      case br6_5 =>
        go_simp
        refine hK.out _ _ ?_ (fun hHeld => ?_)
        · exact (H5.out.alloc H5.out.size _)
        have H12 := Lib.hid (H5.out.alloc H5.out.size (.cells zf 35))
        have N11_12 := Lib.hid (alloc_new H5.out 35 zf)
        have G11_12 := Lib.hid H5.out.size
        clear hK K
        (try simp only [Act.put, List.setIfInBounds_toArray, List.set_cons_zero, List.set_cons_succ])
        refine wpAnyH_ready (rs := [4]) (by kernel_rfl) (by simp) ?_
        refine' (AllReadyH.cons (o := _) ?hir13_4 (fun K hK => ?br13_4) AllReadyH.nil)
        case hir13_4 => (simp only [List.getElem?_toArray, List.getElem?_cons_succ, List.getElem?_cons_zero]; rfl)
        case br13_4 =>
          go_simp
          refine (C11.out _).mono ?_
          rintro e w14 ⟨rfl, hb14⟩
          have H14 := Lib.hid (H12.out.trans (hb14.mono H12.out.size))
          have N11_14 := Lib.hid (N11_12.out.old hb14)
          clear hb14
          go_wp2_with fail
          refine hK.out _ _ ?_ (fun hHeld => ?_)
          exact H14.out
          clear hK K
          (try simp only [Act.put, List.setIfInBounds_toArray, List.set_cons_zero, List.set_cons_succ])
          refine wpAnyH_ready (rs := [6]) (by kernel_rfl) (by simp) ?_
          refine' (AllReadyH.cons (o := _) ?hir15_6 (fun K hK => ?br15_6) AllReadyH.nil)
          case hir15_6 => (simp only [List.getElem?_toArray, List.getElem?_cons_succ, List.getElem?_cons_zero]; rfl)
          case br15_6 =>
            refine step_of_wp rfl ?_
            refine wp_store_row 35 (.tmp 11) (.tmp 37) rfl _ (cF f) rfl rfl 35 _ N11_14.out (cF_ok _).1 (of.out _) (cF_ok _).2 ?_
            refine hK.out _ _ ?_ (fun hHeld => ?_)
            exact below_row H14.out G11_12.out _
            clear hK K
            (try simp only [Act.put, List.setIfInBounds_toArray, List.set_cons_zero, List.set_cons_succ])
            refine wpAnyH_done (by kernel_rfl) ?_ _
            have FA1 := Lib.hid ((A1.out.old H14.out).rowFar (Nat.ne_of_lt (Nat.lt_of_lt_of_le A1.out.lt G11_12.out)) (cF f))
            have FA2 := Lib.hid ((A2.out.old H14.out).rowFar (Nat.ne_of_lt (Nat.lt_of_lt_of_le A2.out.lt G11_12.out)) (cF f))
            have FZ6 := Lib.hid ((Z6.out.old H14.out).rowFar (Nat.ne_of_lt (Nat.lt_of_lt_of_le Z6.out.lt G11_12.out)) (cF f))
            have FX7 := Lib.hid ((X7.out.old H14.out).rowFar (Nat.ne_of_lt (Nat.lt_of_lt_of_le X7.out.lt G11_12.out)) (cF f))
            have FX8 := Lib.hid ((X8.out.old H14.out).rowFar (Nat.ne_of_lt (Nat.lt_of_lt_of_le X8.out.lt G11_12.out)) (cF f))
            have FX9 := Lib.hid ((X9.out.old H14.out).rowFar (Nat.ne_of_lt (Nat.lt_of_lt_of_le X9.out.lt G11_12.out)) (cF f))
            have FX10 := Lib.hid ((X10.out.old H14.out).rowFar (Nat.ne_of_lt (Nat.lt_of_lt_of_le X10.out.lt G11_12.out)) (cF f))
            have LL6 := Lib.hid (Nat.lt_of_lt_of_le Z6.out.lt G11_12.out)
            have HF := Lib.hid (below_row (HB.out.trans (H14.out.mono HB.out.size)) (Nat.le_trans HB.out.size G11_12.out) (cF f))
            have FN11 := Lib.hid (N11_14.out.row (cF f))
            clear hHeld
            go_wp2_with fail
            go_meet
            exact ⟨_, rfl, FN11.out, FA1.out, FA2.out, FZ6.out, FX7.out, FX8.out, FX9.out, FX10.out, HF.out, LL6.out⟩
    case br4_5 =>
      go_simp
      refine hK.out _ _ ?_ (fun hHeld => ?_)
      · exact (HBW10.out.alloc HBW10.out.size _)
      have H17 := Lib.hid (HBW10.out.alloc HBW10.out.size (.cells zf 35))
      have N11_17 := Lib.hid (alloc_new HBW10.out 35 zf)
      have G11_17 := Lib.hid HBW10.out.size
      clear hK K
      (try simp only [Act.put, List.setIfInBounds_toArray, List.set_cons_zero, List.set_cons_succ])
      refine wpAnyH_ready (rs := [2]) (by kernel_rfl) (by simp) ?_
      refine' (AllReadyH.cons (o := _) ?hir18_2 (fun K hK => ?br18_2) AllReadyH.nil)
      case hir18_2 => (simp only [List.getElem?_toArray, List.getElem?_cons_succ, List.getElem?_cons_zero]; rfl)
      case br18_2 =>
        go_simp
        refine (rMul _ _ _).mono ?_
        rintro e w19 ⟨rfl, hb19⟩
        have H19 := Lib.hid (H17.out.trans (hb19.mono H17.out.size))
        have N11_19 := Lib.hid (N11_17.out.old hb19)
        clear hb19
        go_wp2_with fail
        refine hK.out _ _ ?_ (fun hHeld => ?_)
        exact H19.out
        clear hK K
        (try simp only [Act.put, List.setIfInBounds_toArray, List.set_cons_zero, List.set_cons_succ])
        refine wpAnyH_ready (rs := [4]) (by kernel_rfl) (by simp) ?_
        refine' (AllReadyH.cons (o := _) ?hir20_4 (fun K hK => ?br20_4) AllReadyH.nil)
        case hir20_4 => (simp only [List.getElem?_toArray, List.getElem?_cons_succ, List.getElem?_cons_zero]; rfl)
        case br20_4 =>
          go_simp
          refine (C11.out _).mono ?_
          rintro e w21 ⟨rfl, hb21⟩
          have H21 := Lib.hid (H19.out.trans (hb21.mono H19.out.size))
          have N11_21 := Lib.hid (N11_19.out.old hb21)
          clear hb21
          go_wp2_with fail
          refine hK.out _ _ ?_ (fun hHeld => ?_)
          exact H21.out
          clear hK K
          (try simp only [Act.put, List.setIfInBounds_toArray, List.set_cons_zero, List.set_cons_succ])
          refine wpAnyH_ready (rs := [6]) (by kernel_rfl) (by simp) ?_
          refine' (AllReadyH.cons (o := _) ?hir22_6 (fun K hK => ?br22_6) AllReadyH.nil)
          case hir22_6 => (simp only [List.getElem?_toArray, List.getElem?_cons_succ, List.getElem?_cons_zero]; rfl)
          case br22_6 =>
            refine step_of_wp rfl ?_
            refine wp_store_row 35 (.tmp 11) (.tmp 37) rfl _ (cF f) rfl rfl 35 _ N11_21.out (cF_ok _).1 (of.out _) (cF_ok _).2 ?_
            refine hK.out _ _ ?_ (fun hHeld => ?_)
            exact below_row H21.out G11_17.out _
            clear hK K
            (try simp only [Act.put, List.setIfInBounds_toArray, List.set_cons_zero, List.set_cons_succ])
            refine wpAnyH_done (by kernel_rfl) ?_ _
            have FA1 := Lib.hid ((A1.out.old H21.out).rowFar (Nat.ne_of_lt (Nat.lt_of_lt_of_le A1.out.lt G11_17.out)) (cF f))
            have FA2 := Lib.hid ((A2.out.old H21.out).rowFar (Nat.ne_of_lt (Nat.lt_of_lt_of_le A2.out.lt G11_17.out)) (cF f))
            have FZ6 := Lib.hid ((Z6.out.old H21.out).rowFar (Nat.ne_of_lt (Nat.lt_of_lt_of_le Z6.out.lt G11_17.out)) (cF f))
            have FX7 := Lib.hid ((X7.out.old H21.out).rowFar (Nat.ne_of_lt (Nat.lt_of_lt_of_le X7.out.lt G11_17.out)) (cF f))
            have FX8 := Lib.hid ((X8.out.old H21.out).rowFar (Nat.ne_of_lt (Nat.lt_of_lt_of_le X8.out.lt G11_17.out)) (cF f))
            have FX9 := Lib.hid ((X9.out.old H21.out).rowFar (Nat.ne_of_lt (Nat.lt_of_lt_of_le X9.out.lt G11_17.out)) (cF f))
            have FX10 := Lib.hid ((X10.out.old H21.out).rowFar (Nat.ne_of_lt (Nat.lt_of_lt_of_le X10.out.lt G11_17.out)) (cF f))
            have LL6 := Lib.hid (Nat.lt_of_lt_of_le Z6.out.lt G11_17.out)
            have HF := Lib.hid (below_row (HB.out.trans (H21.out.mono HB.out.size)) (Nat.le_trans HB.out.size G11_17.out) (cF f))
            have FN11 := Lib.hid (N11_21.out.row (cF f))
            clear hHeld
            go_wp2_with fail
            go_meet
            exact ⟨_, rfl, FN11.out, FA1.out, FA2.out, FZ6.out, FX7.out, FX8.out, FX9.out, FX10.out, HF.out, LL6.out⟩
  case rest =>
  obtain ⟨g11, rfl, kn, k0, k1, k2, k3, k4, k5, k6, kb, kl⟩ := hcut
  generalize wc = W11 at *
  clear A1 A2 D5 Z6 X7 X8 X9 X10 HB zlt
  have X11 := Lib.hid kn
  have A1 := Lib.hid k0
  have A2 := Lib.hid k1
  have Z6 := Lib.hid k2
  have X7 := Lib.hid k3
  have X8 := Lib.hid k4
  have X9 := Lib.hid k5
  have X10 := Lib.hid k6
  have HB := Lib.hid kb
  have L11 := Lib.hid kl
  clear kn k0 k1 k2 k3 k4 k5 k6 kb kl
  (try simp only [Act.put, List.setIfInBounds_toArray, List.set_cons_zero, List.set_cons_succ])
  have zlt : Hid (w.heap.size + 1 + 1 + 1 < W11.heap.size) := Lib.hid Z6.out.lt
  go_upto_region 7 with (first | (refine wpList_load_row rfl 35 (.tmp 8) rfl g8 rfl 35 (cF b) (0, 0) _ X8.out Tryd.underlying35 rfl (cF_ok _).1 ?_) | (refine wpList_load_row rfl 35 (.tmp 11) rfl g11 rfl 35 (cF f) (0, 0) _ X11.out Tryd.underlying35 rfl (cF_ok _).1 ?_))
  refine (C12.out _).mono ?_
  rintro e w5 ⟨rfl, hb⟩
  have A1 := Lib.hid ((A1.out.old hb).alloc (.cells (cF g) 35))
  have A2 := Lib.hid ((A2.out.old hb).alloc (.cells (cF g) 35))
  have Z6 := Lib.hid ((Z6.out.old hb).alloc (.cells (cF g) 35))
  have X7 := Lib.hid ((X7.out.old hb).alloc (.cells (cF g) 35))
  have X8 := Lib.hid ((X8.out.old hb).alloc (.cells (cF g) 35))
  have X9 := Lib.hid ((X9.out.old hb).alloc (.cells (cF g) 35))
  have X10 := Lib.hid ((X10.out.old hb).alloc (.cells (cF g) 35))
  have X11 := Lib.hid ((X11.out.old hb).alloc (.cells (cF g) 35))
  have HB := Lib.hid ((HB.out.trans (hb.mono HB.out.size)).alloc (HB.out.trans (hb.mono HB.out.size)).size (.cells (cF g) 35))
  have L12 : Hid (w.heap.size + 1 + 1 + 1 < w5.heap.size) := Lib.hid (Nat.lt_of_lt_of_le zlt.out hb.size)
  have X12 := Lib.hid (Blk.new w5 35 (cF g))
  clear hb
  go_upto_region 7 with (first | (refine wpList_store_row rfl 35 (.tmp 12) (.tmp 40) rfl w5.heap.size (cF g) rfl rfl 35 _ (heap_alloc_new w5 _) (cF_ok _).1 (of.out _) (cF_ok _).2 ?_; rw [setRow_alloc1]))
  generalize w5.alloc (.cells (cF g) 35) = W12 at *
  generalize w5.heap.size = g12 at *
  (try simp only [Act.put, List.setIfInBounds_toArray, List.set_cons_zero, List.set_cons_succ])
  have zlt : Hid (w.heap.size + 1 + 1 + 1 < W12.heap.size) := Lib.hid Z6.out.lt
  go_upto_region 8 with (first | (refine wpList_load_row rfl 35 (.tmp 8) rfl g8 rfl 35 (cF b) (0, 0) _ X8.out Tryd.underlying35 rfl (cF_ok _).1 ?_) | (refine wpList_load_row rfl 35 (.tmp 11) rfl g11 rfl 35 (cF f) (0, 0) _ X11.out Tryd.underlying35 rfl (cF_ok _).1 ?_))
  refine (C13.out _).mono ?_
  rintro e w6 ⟨rfl, hb⟩
  have A1 := Lib.hid ((A1.out.old hb).alloc (.cells (cF h) 35))
  have A2 := Lib.hid ((A2.out.old hb).alloc (.cells (cF h) 35))
  have Z6 := Lib.hid ((Z6.out.old hb).alloc (.cells (cF h) 35))
  have X7 := Lib.hid ((X7.out.old hb).alloc (.cells (cF h) 35))
  have X8 := Lib.hid ((X8.out.old hb).alloc (.cells (cF h) 35))
  have X9 := Lib.hid ((X9.out.old hb).alloc (.cells (cF h) 35))
  have X10 := Lib.hid ((X10.out.old hb).alloc (.cells (cF h) 35))
  have X11 := Lib.hid ((X11.out.old hb).alloc (.cells (cF h) 35))
  have X12 := Lib.hid ((X12.out.old hb).alloc (.cells (cF h) 35))
  have HB := Lib.hid ((HB.out.trans (hb.mono HB.out.size)).alloc (HB.out.trans (hb.mono HB.out.size)).size (.cells (cF h) 35))
  have L13 : Hid (w.heap.size + 1 + 1 + 1 < w6.heap.size) := Lib.hid (Nat.lt_of_lt_of_le zlt.out hb.size)
  have X13 := Lib.hid (Blk.new w6 35 (cF h))
  clear hb
  go_upto_region 8 with (first | (refine wpList_store_row rfl 35 (.tmp 13) (.tmp 43) rfl w6.heap.size (cF h) rfl rfl 35 _ (heap_alloc_new w6 _) (cF_ok _).1 (of.out _) (cF_ok _).2 ?_; rw [setRow_alloc1]))
  generalize w6.alloc (.cells (cF h) 35) = W13 at *
  generalize w6.heap.size = g13 at *
  (try simp only [Act.put, List.setIfInBounds_toArray, List.set_cons_zero, List.set_cons_succ])
  have zlt : Hid (w.heap.size + 1 + 1 + 1 < W13.heap.size) := Lib.hid Z6.out.lt
  go_cut [14] (fun v wx => ∃ g14, v = .pointer (some ⟨g14, 0, none⟩) ∧ Blk wx g14 35 (cF k) ∧ Blk wx (w.heap.size + 1 + 1 + 1) 37 z ∧ Blk wx g7 35 (cF a) ∧ Blk wx g9 35 (cF c) ∧ Blk wx g10 35 (cF e) ∧ Blk wx g12 35 (cF g) ∧ Blk wx g13 35 (cF h) ∧ Below w.heap.size w wx ∧ w.heap.size + 1 + 1 + 1 < g14)
  case first =>
    refine wp_region_held_drew (S := fun V => Below W13.heap.size W13 V) (by kernel_rfl) ((Below.refl _ _).drew) (fun hHeld => ?_)
    have HBW13 := Lib.hid ((Below.refl W13.heap.size W13).drew)
    generalize W13.drew = VW13 at *
    refine' wpAnyH_take (i := 0) (oi := _) (v := _) ?hit24 ?hst24 ?hft24 ?hrt24 ?hQt24 ?hyt24 ?hSt24 ?_
    case hit24 => (simp only [List.getElem?_toArray, List.getElem?_cons_succ, List.getElem?_cons_zero]; rfl)
    case hst24 => kernel_rfl
    case hft24 => kernel_rfl
    case hrt24 => kernel_rfl
    case hQt24 => exact fun _ _ _ h => h
    case hSt24 => assumption
    case hyt24 =>
      refine Or.inl ⟨by rfl, ?_⟩
      intro w hSw
      (try dsimp only at hSw)
      go_simp
      all_goals (with_reducible rfl)
    (try simp only [Act.put, List.setIfInBounds_toArray, List.set_cons_zero, List.set_cons_succ])
    refine' wpAnyH_take (i := 1) (oi := _) (v := .agg (cF x1)) ?hit25 ?hst25 ?hft25 ?hrt25 ?hQt25 ?hyt25 ?hSt25 ?_
    case hit25 => (simp only [List.getElem?_toArray, List.getElem?_cons_succ, List.getElem?_cons_zero]; rfl)
    case hst25 => kernel_rfl
    case hft25 => kernel_rfl
    case hrt25 => kernel_rfl
    case hQt25 => exact fun _ _ _ h => h
    case hSt25 => assumption
    case hyt25 =>
      refine Or.inl ⟨by rfl, ?_⟩
      intro W hS
      exact quiet_load_at 35 (.tmp 44) _ 0 rfl 24 16 (cF x1) Tryd.underlying35 (cF_ok _).1 (KX.out _ _ _ (A1.out.old hS)) rfl
    (try simp only [Act.put, List.setIfInBounds_toArray, List.set_cons_zero, List.set_cons_succ])
    refine' wpAnyH_take (i := 2) (oi := _) (v := _) ?hit26 ?hst26 ?hft26 ?hrt26 ?hQt26 ?hyt26 ?hSt26 ?_
    case hit26 => (simp only [List.getElem?_toArray, List.getElem?_cons_succ, List.getElem?_cons_zero]; rfl)
    case hst26 => kernel_rfl
    case hft26 => kernel_rfl
    case hrt26 => kernel_rfl
    case hQt26 => exact fun _ _ _ h => h
    case hSt26 => assumption
    case hyt26 =>
      refine Or.inl ⟨by rfl, ?_⟩
      intro w hSw
      (try dsimp only at hSw)
      go_simp
      all_goals (with_reducible rfl)
    (try simp only [Act.put, List.setIfInBounds_toArray, List.set_cons_zero, List.set_cons_succ])
    refine' wpAnyH_take (i := 3) (oi := _) (v := .agg (cF y1)) ?hit27 ?hst27 ?hft27 ?hrt27 ?hQt27 ?hyt27 ?hSt27 ?_
    case hit27 => (simp only [List.getElem?_toArray, List.getElem?_cons_succ, List.getElem?_cons_zero]; rfl)
    case hst27 => kernel_rfl
    case hft27 => kernel_rfl
    case hrt27 => kernel_rfl
    case hQt27 => exact fun _ _ _ h => h
    case hSt27 => assumption
    case hyt27 =>
      refine Or.inl ⟨by rfl, ?_⟩
      intro W hS
      exact quiet_load_at 35 (.tmp 46) _ 16 rfl 24 16 (cF y1) Tryd.underlying35 (cF_ok _).1 (KY.out _ _ _ (A1.out.old hS)) rfl
    (try simp only [Act.put, List.setIfInBounds_toArray, List.set_cons_zero, List.set_cons_succ])
    refine' wpAnyH_take (i := 5) (oi := _) (v := _) ?hit28 ?hst28 ?hft28 ?hrt28 ?hQt28 ?hyt28 ?hSt28 ?_
    case hit28 => (simp only [List.getElem?_toArray, List.getElem?_cons_succ, List.getElem?_cons_zero]; rfl)
    case hst28 => kernel_rfl
    case hft28 => kernel_rfl
    case hrt28 => kernel_rfl
    case hQt28 => exact fun _ _ _ h => h
    case hSt28 => assumption
    case hyt28 =>
      refine Or.inl ⟨by rfl, ?_⟩
      intro w hSw
      (try dsimp only at hSw)
      go_simp
      all_goals (with_reducible rfl)
    (try simp only [Act.put, List.setIfInBounds_toArray, List.set_cons_zero, List.set_cons_succ])
    refine' wpAnyH_take (i := 6) (oi := _) (v := .agg (cF x2)) ?hit29 ?hst29 ?hft29 ?hrt29 ?hQt29 ?hyt29 ?hSt29 ?_
    case hit29 => (simp only [List.getElem?_toArray, List.getElem?_cons_succ, List.getElem?_cons_zero]; rfl)
    case hst29 => kernel_rfl
    case hft29 => kernel_rfl
    case hrt29 => kernel_rfl
    case hQt29 => exact fun _ _ _ h => h
    case hSt29 => assumption
    case hyt29 =>
      refine Or.inl ⟨by rfl, ?_⟩
      intro W hS
      exact quiet_load_at 35 (.tmp 49) _ 0 rfl 24 16 (cF x2) Tryd.underlying35 (cF_ok _).1 (LX.out _ _ _ (A2.out.old hS)) rfl
    (try simp only [Act.put, List.setIfInBounds_toArray, List.set_cons_zero, List.set_cons_succ])
    refine' wpAnyH_take (i := 7) (oi := _) (v := _) ?hit30 ?hst30 ?hft30 ?hrt30 ?hQt30 ?hyt30 ?hSt30 ?_
    case hit30 => (simp only [List.getElem?_toArray, List.getElem?_cons_succ, List.getElem?_cons_zero]; rfl)
    case hst30 => kernel_rfl
    case hft30 => kernel_rfl
    case hrt30 => kernel_rfl
    case hQt30 => exact fun _ _ _ h => h
    case hSt30 => assumption
    case hyt30 =>
      refine Or.inl ⟨by rfl, ?_⟩
      intro w hSw
      (try dsimp only at hSw)
      go_simp
      all_goals (with_reducible rfl)
    (try simp only [Act.put, List.setIfInBounds_toArray, List.set_cons_zero, List.set_cons_succ])
    refine' wpAnyH_take (i := 8) (oi := _) (v := .agg (cF y2)) ?hit31 ?hst31 ?hft31 ?hrt31 ?hQt31 ?hyt31 ?hSt31 ?_
    case hit31 => (simp only [List.getElem?_toArray, List.getElem?_cons_succ, List.getElem?_cons_zero]; rfl)
    case hst31 => kernel_rfl
    case hft31 => kernel_rfl
    case hrt31 => kernel_rfl
    case hQt31 => exact fun _ _ _ h => h
    case hSt31 => assumption
    case hyt31 =>
      refine Or.inl ⟨by rfl, ?_⟩
      intro W hS
      exact quiet_load_at 35 (.tmp 51) _ 16 rfl 24 16 (cF y2) Tryd.underlying35 (cF_ok _).1 (LY.out _ _ _ (A2.out.old hS)) rfl
    (try simp only [Act.put, List.setIfInBounds_toArray, List.set_cons_zero, List.set_cons_succ])
    refine' wpAnyH_take (i := 11) (oi := _) (v := .agg (cF c)) ?hit32 ?hst32 ?hft32 ?hrt32 ?hQt32 ?hyt32 ?hSt32 ?_
    case hit32 => (simp only [List.getElem?_toArray, List.getElem?_cons_succ, List.getElem?_cons_zero]; rfl)
    case hst32 => kernel_rfl
    case hft32 => kernel_rfl
    case hrt32 => kernel_rfl
    case hQt32 => exact fun _ _ _ h => h
    case hSt32 => assumption
    case hyt32 =>
      refine Or.inl ⟨by rfl, ?_⟩
      intro W hS
      exact quiet_load_row 35 (.tmp 9) _ rfl 35 (cF c) _ (X9.out.old hS) Tryd.underlying35 rfl (cF_ok _).1 rfl
    (try simp only [Act.put, List.setIfInBounds_toArray, List.set_cons_zero, List.set_cons_succ])
    refine' wpAnyH_take (i := 13) (oi := _) (v := .agg (cF e)) ?hit33 ?hst33 ?hft33 ?hrt33 ?hQt33 ?hyt33 ?hSt33 ?_
    case hit33 => (simp only [List.getElem?_toArray, List.getElem?_cons_succ, List.getElem?_cons_zero]; rfl)
    case hst33 => kernel_rfl
    case hft33 => kernel_rfl
    case hrt33 => kernel_rfl
    case hQt33 => exact fun _ _ _ h => h
    case hSt33 => assumption
    case hyt33 =>
      refine Or.inl ⟨by rfl, ?_⟩
      intro W hS
      exact quiet_load_row 35 (.tmp 10) _ rfl 35 (cF e) _ (X10.out.old hS) Tryd.underlying35 rfl (cF_ok _).1 rfl
    (try simp only [Act.put, List.setIfInBounds_toArray, List.set_cons_zero, List.set_cons_succ])
    refine wpAnyH_ready (rs := [4, 15]) (by kernel_rfl) (by simp) ?_
    refine' (AllReadyH.cons (o := _) ?hir34_4 (fun K hK => ?br34_4) (AllReadyH.cons (o := _) ?hir34_15 (fun K hK => ?br34_15) AllReadyH.nil))
    case hir34_4 => (simp only [List.getElem?_toArray, List.getElem?_cons_succ, List.getElem?_cons_zero]; rfl)
    case hir34_15 => (simp only [List.getElem?_toArray, List.getElem?_cons_succ, List.getElem?_cons_zero]; rfl)
    case br34_4 =>
      go_simp
      refine (rAdd _ _ _).mono ?_
      rintro e w35 ⟨rfl, hb35⟩
      have H35 := Lib.hid (HBW13.out.trans (hb35.mono HBW13.out.size))
      clear hb35
      go_wp2_with fail
      refine hK.out _ _ ?_ (fun hHeld => ?_)
      exact H35.out
      clear hK K
      (try simp only [Act.put, List.setIfInBounds_toArray, List.set_cons_zero, List.set_cons_succ])
      refine wpAnyH_ready (rs := [9, 15]) (by kernel_rfl) (by simp) ?_
      refine' (AllReadyH.cons (o := _) ?hir36_9 (fun K hK => ?br36_9) (AllReadyH.cons (o := _) ?hir36_15 (fun K hK => ?br36_15) AllReadyH.nil))
      case hir36_9 => (simp only [List.getElem?_toArray, List.getElem?_cons_succ, List.getElem?_cons_zero]; rfl)
      case hir36_15 => (simp only [List.getElem?_toArray, List.getElem?_cons_succ, List.getElem?_cons_zero]; rfl)
      case br36_9 =>
        go_simp
        refine (rAdd _ _ _).mono ?_
        rintro e w37 ⟨rfl, hb37⟩
        have H37 := Lib.hid (H35.out.trans (hb37.mono H35.out.size))
        clear hb37
        go_wp2_with fail
        refine hK.out _ _ ?_ (fun hHeld => ?_)
        exact H37.out
        clear hK K
        (try simp only [Act.put, List.setIfInBounds_toArray, List.set_cons_zero, List.set_cons_succ])
        refine wpAnyH_ready (rs := [10, 15]) (by kernel_rfl) (by simp) ?_
        refine' (AllReadyH.cons (o := _) ?hir38_10 (fun K hK => ?br38_10) (AllReadyH.cons (o := _) ?hir38_15 (fun K hK => ?br38_15) AllReadyH.nil))
        case hir38_10 => (simp only [List.getElem?_toArray, List.getElem?_cons_succ, List.getElem?_cons_zero]; rfl)
        case hir38_15 => (simp only [List.getElem?_toArray, List.getElem?_cons_succ, List.getElem?_cons_zero]; rfl)
        case br38_10 =>
          go_simp
          refine (rMul _ _ _).mono ?_
          rintro e w39 ⟨rfl, hb39⟩
          have H39 := Lib.hid (H37.out.trans (hb39.mono H37.out.size))
          clear hb39
          go_wp2_with fail
          refine hK.out _ _ ?_ (fun hHeld => ?_)
          exact H39.out
          clear hK K
          (try simp only [Act.put, List.setIfInBounds_toArray, List.set_cons_zero, List.set_cons_succ])
          refine wpAnyH_ready (rs := [12, 15]) (by kernel_rfl) (by simp) ?_
          refine' (AllReadyH.cons (o := _) ?hir40_12 (fun K hK => ?br40_12) (AllReadyH.cons (o := _) ?hir40_15 (fun K hK => ?br40_15) AllReadyH.nil))
          case hir40_12 => (simp only [List.getElem?_toArray, List.getElem?_cons_succ, List.getElem?_cons_zero]; rfl)
          case hir40_15 => (simp only [List.getElem?_toArray, List.getElem?_cons_succ, List.getElem?_cons_zero]; rfl)
          case br40_12 =>
            go_simp
            refine (rSub _ _ _).mono ?_
            rintro e w41 ⟨rfl, hb41⟩
            have H41 := Lib.hid (H39.out.trans (hb41.mono H39.out.size))
            clear hb41
            go_wp2_with fail
            refine hK.out _ _ ?_ (fun hHeld => ?_)
            exact H41.out
            clear hK K
            (try simp only [Act.put, List.setIfInBounds_toArray, List.set_cons_zero, List.set_cons_succ])
            refine wpAnyH_ready (rs := [14, 15]) (by kernel_rfl) (by simp) ?_
            refine' (AllReadyH.cons (o := _) ?hir42_14 (fun K hK => ?br42_14) (AllReadyH.cons (o := _) ?hir42_15 (fun K hK => ?br42_15) AllReadyH.nil))
            case hir42_14 => (simp only [List.getElem?_toArray, List.getElem?_cons_succ, List.getElem?_cons_zero]; rfl)
            case hir42_15 => (simp only [List.getElem?_toArray, List.getElem?_cons_succ, List.getElem?_cons_zero]; rfl)
            case br42_14 =>
              go_simp
              refine (C14.out _).mono ?_
              rintro e w43 ⟨rfl, hb43⟩
              have H43 := Lib.hid (H41.out.trans (hb43.mono H41.out.size))
              clear hb43
              go_wp2_with fail
              refine hK.out _ _ ?_ (fun hHeld => ?_)
              exact H43.out
              clear hK K
              (try simp only [Act.put, List.setIfInBounds_toArray, List.set_cons_zero, List.set_cons_succ])
              refine wpAnyH_ready (rs := [15]) (by kernel_rfl) (by simp) ?_
              refine' (AllReadyH.cons (o := _) ?hir44_15 (fun K hK => ?br44_15) AllReadyH.nil)
              case hir44_15 => (simp only [List.getElem?_toArray, List.getElem?_cons_succ, List.getElem?_cons_zero]; rfl)
              case br44_15 =>
                go_simp
                refine hK.out _ _ ?_ (fun hHeld => ?_)
                · exact (H43.out.alloc H43.out.size _)
                have H45 := Lib.hid (H43.out.alloc H43.out.size (.cells zf 35))
                have N14_45 := Lib.hid (alloc_new H43.out 35 zf)
                have G14_45 := Lib.hid H43.out.size
                clear hK K
                (try simp only [Act.put, List.setIfInBounds_toArray, List.set_cons_zero, List.set_cons_succ])
                refine wpAnyH_ready (rs := [16]) (by kernel_rfl) (by simp) ?_
                refine' (AllReadyH.cons (o := _) ?hir46_16 (fun K hK => ?br46_16) AllReadyH.nil)
                case hir46_16 => (simp only [List.getElem?_toArray, List.getElem?_cons_succ, List.getElem?_cons_zero]; rfl)
                case br46_16 =>
                  refine step_of_wp rfl ?_
                  refine wp_store_row 35 (.tmp 14) (.tmp 58) rfl _ (cF k) rfl rfl 35 _ N14_45.out (cF_ok _).1 (of.out _) (cF_ok _).2 ?_
                  refine hK.out _ _ ?_ (fun hHeld => ?_)
                  exact below_row H45.out G14_45.out _
                  clear hK K
                  (try simp only [Act.put, List.setIfInBounds_toArray, List.set_cons_zero, List.set_cons_succ])
                  refine wpAnyH_done (by kernel_rfl) ?_ _
                  have FZ6 := Lib.hid ((Z6.out.old H45.out).rowFar (Nat.ne_of_lt (Nat.lt_of_lt_of_le Z6.out.lt G14_45.out)) (cF k))
                  have FX7 := Lib.hid ((X7.out.old H45.out).rowFar (Nat.ne_of_lt (Nat.lt_of_lt_of_le X7.out.lt G14_45.out)) (cF k))
                  have FX9 := Lib.hid ((X9.out.old H45.out).rowFar (Nat.ne_of_lt (Nat.lt_of_lt_of_le X9.out.lt G14_45.out)) (cF k))
                  have FX10 := Lib.hid ((X10.out.old H45.out).rowFar (Nat.ne_of_lt (Nat.lt_of_lt_of_le X10.out.lt G14_45.out)) (cF k))
                  have FX12 := Lib.hid ((X12.out.old H45.out).rowFar (Nat.ne_of_lt (Nat.lt_of_lt_of_le X12.out.lt G14_45.out)) (cF k))
                  have FX13 := Lib.hid ((X13.out.old H45.out).rowFar (Nat.ne_of_lt (Nat.lt_of_lt_of_le X13.out.lt G14_45.out)) (cF k))
                  have LL6 := Lib.hid (Nat.lt_of_lt_of_le Z6.out.lt G14_45.out)
                  have HF := Lib.hid (below_row (HB.out.trans (H45.out.mono HB.out.size)) (Nat.le_trans HB.out.size G14_45.out) (cF k))
                  have FN14 := Lib.hid (N14_45.out.row (cF k))
                  clear hHeld
                  go_wp2_with fail
                  go_meet
                  exact ⟨_, rfl, FN14.out, FZ6.out, FX7.out, FX9.out, FX10.out, FX12.out, FX13.out, HF.out, LL6.out⟩
            case br42_15 =>
              go_simp
              refine hK.out _ _ ?_ (fun hHeld => ?_)
              · exact (H41.out.alloc H41.out.size _)
              have H48 := Lib.hid (H41.out.alloc H41.out.size (.cells zf 35))
              have N14_48 := Lib.hid (alloc_new H41.out 35 zf)
              have G14_48 := Lib.hid H41.out.size
              clear hK K
              (try simp only [Act.put, List.setIfInBounds_toArray, List.set_cons_zero, List.set_cons_succ])
              refine wpAnyH_ready (rs := [14]) (by kernel_rfl) (by simp) ?_
              refine' (AllReadyH.cons (o := _) ?hir49_14 (fun K hK => ?br49_14) AllReadyH.nil)
              case hir49_14 => (simp only [List.getElem?_toArray, List.getElem?_cons_succ, List.getElem?_cons_zero]; rfl)
              case br49_14 =>
                go_simp
                refine (C14.out _).mono ?_
                rintro e w50 ⟨rfl, hb50⟩
                have H50 := Lib.hid (H48.out.trans (hb50.mono H48.out.size))
                have N14_50 := Lib.hid (N14_48.out.old hb50)
                clear hb50
                go_wp2_with fail
                refine hK.out _ _ ?_ (fun hHeld => ?_)
                exact H50.out
                clear hK K
                (try simp only [Act.put, List.setIfInBounds_toArray, List.set_cons_zero, List.set_cons_succ])
                refine wpAnyH_ready (rs := [16]) (by kernel_rfl) (by simp) ?_
                refine' (AllReadyH.cons (o := _) ?hir51_16 (fun K hK => ?br51_16) AllReadyH.nil)
                case hir51_16 => (simp only [List.getElem?_toArray, List.getElem?_cons_succ, List.getElem?_cons_zero]; rfl)
                case br51_16 =>
                  refine step_of_wp rfl ?_
                  refine wp_store_row 35 (.tmp 14) (.tmp 58) rfl _ (cF k) rfl rfl 35 _ N14_50.out (cF_ok _).1 (of.out _) (cF_ok _).2 ?_
                  refine hK.out _ _ ?_ (fun hHeld => ?_)
                  exact below_row H50.out G14_48.out _
                  clear hK K
                  (try simp only [Act.put, List.setIfInBounds_toArray, List.set_cons_zero, List.set_cons_succ])
                  refine wpAnyH_done (by kernel_rfl) ?_ _
                  have FZ6 := Lib.hid ((Z6.out.old H50.out).rowFar (Nat.ne_of_lt (Nat.lt_of_lt_of_le Z6.out.lt G14_48.out)) (cF k))
                  have FX7 := Lib.hid ((X7.out.old H50.out).rowFar (Nat.ne_of_lt (Nat.lt_of_lt_of_le X7.out.lt G14_48.out)) (cF k))
                  have FX9 := Lib.hid ((X9.out.old H50.out).rowFar (Nat.ne_of_lt (Nat.lt_of_lt_of_le X9.out.lt G14_48.out)) (cF k))
                  have FX10 := Lib.hid ((X10.out.old H50.out).rowFar (Nat.ne_of_lt (Nat.lt_of_lt_of_le X10.out.lt G14_48.out)) (cF k))
                  have FX12 := Lib.hid ((X12.out.old H50.out).rowFar (Nat.ne_of_lt (Nat.lt_of_lt_of_le X12.out.lt G14_48.out)) (cF k))
                  have FX13 := Lib.hid ((X13.out.old H50.out).rowFar (Nat.ne_of_lt (Nat.lt_of_lt_of_le X13.out.lt G14_48.out)) (cF k))
                  have LL6 := Lib.hid (Nat.lt_of_lt_of_le Z6.out.lt G14_48.out)
                  have HF := Lib.hid (below_row (HB.out.trans (H50.out.mono HB.out.size)) (Nat.le_trans HB.out.size G14_48.out) (cF k))
                  have FN14 := Lib.hid (N14_50.out.row (cF k))
                  clear hHeld
                  go_wp2_with fail
                  go_meet
                  exact ⟨_, rfl, FN14.out, FZ6.out, FX7.out, FX9.out, FX10.out, FX12.out, FX13.out, HF.out, LL6.out⟩
          case br40_15 =>
            go_simp
            refine hK.out _ _ ?_ (fun hHeld => ?_)
            · exact (H39.out.alloc H39.out.size _)
            have H53 := Lib.hid (H39.out.alloc H39.out.size (.cells zf 35))
            have N14_53 := Lib.hid (alloc_new H39.out 35 zf)
            have G14_53 := Lib.hid H39.out.size
            clear hK K
            (try simp only [Act.put, List.setIfInBounds_toArray, List.set_cons_zero, List.set_cons_succ])
            refine wpAnyH_ready (rs := [12]) (by kernel_rfl) (by simp) ?_
            refine' (AllReadyH.cons (o := _) ?hir54_12 (fun K hK => ?br54_12) AllReadyH.nil)
            case hir54_12 => (simp only [List.getElem?_toArray, List.getElem?_cons_succ, List.getElem?_cons_zero]; rfl)
            case br54_12 =>
              go_simp
              refine (rSub _ _ _).mono ?_
              rintro e w55 ⟨rfl, hb55⟩
              have H55 := Lib.hid (H53.out.trans (hb55.mono H53.out.size))
              have N14_55 := Lib.hid (N14_53.out.old hb55)
              clear hb55
              go_wp2_with fail
              refine hK.out _ _ ?_ (fun hHeld => ?_)
              exact H55.out
              clear hK K
              (try simp only [Act.put, List.setIfInBounds_toArray, List.set_cons_zero, List.set_cons_succ])
              refine wpAnyH_ready (rs := [14]) (by kernel_rfl) (by simp) ?_
              refine' (AllReadyH.cons (o := _) ?hir56_14 (fun K hK => ?br56_14) AllReadyH.nil)
              case hir56_14 => (simp only [List.getElem?_toArray, List.getElem?_cons_succ, List.getElem?_cons_zero]; rfl)
              case br56_14 =>
                go_simp
                refine (C14.out _).mono ?_
                rintro e w57 ⟨rfl, hb57⟩
                have H57 := Lib.hid (H55.out.trans (hb57.mono H55.out.size))
                have N14_57 := Lib.hid (N14_55.out.old hb57)
                clear hb57
                go_wp2_with fail
                refine hK.out _ _ ?_ (fun hHeld => ?_)
                exact H57.out
                clear hK K
                (try simp only [Act.put, List.setIfInBounds_toArray, List.set_cons_zero, List.set_cons_succ])
                refine wpAnyH_ready (rs := [16]) (by kernel_rfl) (by simp) ?_
                refine' (AllReadyH.cons (o := _) ?hir58_16 (fun K hK => ?br58_16) AllReadyH.nil)
                case hir58_16 => (simp only [List.getElem?_toArray, List.getElem?_cons_succ, List.getElem?_cons_zero]; rfl)
                case br58_16 =>
                  refine step_of_wp rfl ?_
                  refine wp_store_row 35 (.tmp 14) (.tmp 58) rfl _ (cF k) rfl rfl 35 _ N14_57.out (cF_ok _).1 (of.out _) (cF_ok _).2 ?_
                  refine hK.out _ _ ?_ (fun hHeld => ?_)
                  exact below_row H57.out G14_53.out _
                  clear hK K
                  (try simp only [Act.put, List.setIfInBounds_toArray, List.set_cons_zero, List.set_cons_succ])
                  refine wpAnyH_done (by kernel_rfl) ?_ _
                  have FZ6 := Lib.hid ((Z6.out.old H57.out).rowFar (Nat.ne_of_lt (Nat.lt_of_lt_of_le Z6.out.lt G14_53.out)) (cF k))
                  have FX7 := Lib.hid ((X7.out.old H57.out).rowFar (Nat.ne_of_lt (Nat.lt_of_lt_of_le X7.out.lt G14_53.out)) (cF k))
                  have FX9 := Lib.hid ((X9.out.old H57.out).rowFar (Nat.ne_of_lt (Nat.lt_of_lt_of_le X9.out.lt G14_53.out)) (cF k))
                  have FX10 := Lib.hid ((X10.out.old H57.out).rowFar (Nat.ne_of_lt (Nat.lt_of_lt_of_le X10.out.lt G14_53.out)) (cF k))
                  have FX12 := Lib.hid ((X12.out.old H57.out).rowFar (Nat.ne_of_lt (Nat.lt_of_lt_of_le X12.out.lt G14_53.out)) (cF k))
                  have FX13 := Lib.hid ((X13.out.old H57.out).rowFar (Nat.ne_of_lt (Nat.lt_of_lt_of_le X13.out.lt G14_53.out)) (cF k))
                  have LL6 := Lib.hid (Nat.lt_of_lt_of_le Z6.out.lt G14_53.out)
                  have HF := Lib.hid (below_row (HB.out.trans (H57.out.mono HB.out.size)) (Nat.le_trans HB.out.size G14_53.out) (cF k))
                  have FN14 := Lib.hid (N14_57.out.row (cF k))
                  clear hHeld
                  go_wp2_with fail
                  go_meet
                  exact ⟨_, rfl, FN14.out, FZ6.out, FX7.out, FX9.out, FX10.out, FX12.out, FX13.out, HF.out, LL6.out⟩
        case br38_15 =>
          go_simp
          refine hK.out _ _ ?_ (fun hHeld => ?_)
          · exact (H37.out.alloc H37.out.size _)
          have H60 := Lib.hid (H37.out.alloc H37.out.size (.cells zf 35))
          have N14_60 := Lib.hid (alloc_new H37.out 35 zf)
          have G14_60 := Lib.hid H37.out.size
          clear hK K
          (try simp only [Act.put, List.setIfInBounds_toArray, List.set_cons_zero, List.set_cons_succ])
          refine wpAnyH_ready (rs := [10]) (by kernel_rfl) (by simp) ?_
          refine' (AllReadyH.cons (o := _) ?hir61_10 (fun K hK => ?br61_10) AllReadyH.nil)
          case hir61_10 => (simp only [List.getElem?_toArray, List.getElem?_cons_succ, List.getElem?_cons_zero]; rfl)
          case br61_10 =>
            go_simp
            refine (rMul _ _ _).mono ?_
            rintro e w62 ⟨rfl, hb62⟩
            have H62 := Lib.hid (H60.out.trans (hb62.mono H60.out.size))
            have N14_62 := Lib.hid (N14_60.out.old hb62)
            clear hb62
            go_wp2_with fail
            refine hK.out _ _ ?_ (fun hHeld => ?_)
            exact H62.out
            clear hK K
            (try simp only [Act.put, List.setIfInBounds_toArray, List.set_cons_zero, List.set_cons_succ])
            refine wpAnyH_ready (rs := [12]) (by kernel_rfl) (by simp) ?_
            refine' (AllReadyH.cons (o := _) ?hir63_12 (fun K hK => ?br63_12) AllReadyH.nil)
            case hir63_12 => (simp only [List.getElem?_toArray, List.getElem?_cons_succ, List.getElem?_cons_zero]; rfl)
            case br63_12 =>
              go_simp
              refine (rSub _ _ _).mono ?_
              rintro e w64 ⟨rfl, hb64⟩
              have H64 := Lib.hid (H62.out.trans (hb64.mono H62.out.size))
              have N14_64 := Lib.hid (N14_62.out.old hb64)
              clear hb64
              go_wp2_with fail
              refine hK.out _ _ ?_ (fun hHeld => ?_)
              exact H64.out
              clear hK K
              (try simp only [Act.put, List.setIfInBounds_toArray, List.set_cons_zero, List.set_cons_succ])
              refine wpAnyH_ready (rs := [14]) (by kernel_rfl) (by simp) ?_
              refine' (AllReadyH.cons (o := _) ?hir65_14 (fun K hK => ?br65_14) AllReadyH.nil)
              case hir65_14 => (simp only [List.getElem?_toArray, List.getElem?_cons_succ, List.getElem?_cons_zero]; rfl)
              case br65_14 =>
                go_simp
                refine (C14.out _).mono ?_
                rintro e w66 ⟨rfl, hb66⟩
                have H66 := Lib.hid (H64.out.trans (hb66.mono H64.out.size))
                have N14_66 := Lib.hid (N14_64.out.old hb66)
                clear hb66
                go_wp2_with fail
                refine hK.out _ _ ?_ (fun hHeld => ?_)
                exact H66.out
                clear hK K
                (try simp only [Act.put, List.setIfInBounds_toArray, List.set_cons_zero, List.set_cons_succ])
                refine wpAnyH_ready (rs := [16]) (by kernel_rfl) (by simp) ?_
                refine' (AllReadyH.cons (o := _) ?hir67_16 (fun K hK => ?br67_16) AllReadyH.nil)
                case hir67_16 => (simp only [List.getElem?_toArray, List.getElem?_cons_succ, List.getElem?_cons_zero]; rfl)
                case br67_16 =>
                  refine step_of_wp rfl ?_
                  refine wp_store_row 35 (.tmp 14) (.tmp 58) rfl _ (cF k) rfl rfl 35 _ N14_66.out (cF_ok _).1 (of.out _) (cF_ok _).2 ?_
                  refine hK.out _ _ ?_ (fun hHeld => ?_)
                  exact below_row H66.out G14_60.out _
                  clear hK K
                  (try simp only [Act.put, List.setIfInBounds_toArray, List.set_cons_zero, List.set_cons_succ])
                  refine wpAnyH_done (by kernel_rfl) ?_ _
                  have FZ6 := Lib.hid ((Z6.out.old H66.out).rowFar (Nat.ne_of_lt (Nat.lt_of_lt_of_le Z6.out.lt G14_60.out)) (cF k))
                  have FX7 := Lib.hid ((X7.out.old H66.out).rowFar (Nat.ne_of_lt (Nat.lt_of_lt_of_le X7.out.lt G14_60.out)) (cF k))
                  have FX9 := Lib.hid ((X9.out.old H66.out).rowFar (Nat.ne_of_lt (Nat.lt_of_lt_of_le X9.out.lt G14_60.out)) (cF k))
                  have FX10 := Lib.hid ((X10.out.old H66.out).rowFar (Nat.ne_of_lt (Nat.lt_of_lt_of_le X10.out.lt G14_60.out)) (cF k))
                  have FX12 := Lib.hid ((X12.out.old H66.out).rowFar (Nat.ne_of_lt (Nat.lt_of_lt_of_le X12.out.lt G14_60.out)) (cF k))
                  have FX13 := Lib.hid ((X13.out.old H66.out).rowFar (Nat.ne_of_lt (Nat.lt_of_lt_of_le X13.out.lt G14_60.out)) (cF k))
                  have LL6 := Lib.hid (Nat.lt_of_lt_of_le Z6.out.lt G14_60.out)
                  have HF := Lib.hid (below_row (HB.out.trans (H66.out.mono HB.out.size)) (Nat.le_trans HB.out.size G14_60.out) (cF k))
                  have FN14 := Lib.hid (N14_66.out.row (cF k))
                  clear hHeld
                  go_wp2_with fail
                  go_meet
                  exact ⟨_, rfl, FN14.out, FZ6.out, FX7.out, FX9.out, FX10.out, FX12.out, FX13.out, HF.out, LL6.out⟩
      case br36_15 =>
        go_simp
        refine hK.out _ _ ?_ (fun hHeld => ?_)
        · exact (H35.out.alloc H35.out.size _)
        have H69 := Lib.hid (H35.out.alloc H35.out.size (.cells zf 35))
        have N14_69 := Lib.hid (alloc_new H35.out 35 zf)
        have G14_69 := Lib.hid H35.out.size
        clear hK K
        (try simp only [Act.put, List.setIfInBounds_toArray, List.set_cons_zero, List.set_cons_succ])
        refine wpAnyH_ready (rs := [9]) (by kernel_rfl) (by simp) ?_
        refine' (AllReadyH.cons (o := _) ?hir70_9 (fun K hK => ?br70_9) AllReadyH.nil)
        case hir70_9 => (simp only [List.getElem?_toArray, List.getElem?_cons_succ, List.getElem?_cons_zero]; rfl)
        case br70_9 =>
          go_simp
          refine (rAdd _ _ _).mono ?_
          rintro e w71 ⟨rfl, hb71⟩
          have H71 := Lib.hid (H69.out.trans (hb71.mono H69.out.size))
          have N14_71 := Lib.hid (N14_69.out.old hb71)
          clear hb71
          go_wp2_with fail
          refine hK.out _ _ ?_ (fun hHeld => ?_)
          exact H71.out
          clear hK K
          (try simp only [Act.put, List.setIfInBounds_toArray, List.set_cons_zero, List.set_cons_succ])
          refine wpAnyH_ready (rs := [10]) (by kernel_rfl) (by simp) ?_
          refine' (AllReadyH.cons (o := _) ?hir72_10 (fun K hK => ?br72_10) AllReadyH.nil)
          case hir72_10 => (simp only [List.getElem?_toArray, List.getElem?_cons_succ, List.getElem?_cons_zero]; rfl)
          case br72_10 =>
            go_simp
            refine (rMul _ _ _).mono ?_
            rintro e w73 ⟨rfl, hb73⟩
            have H73 := Lib.hid (H71.out.trans (hb73.mono H71.out.size))
            have N14_73 := Lib.hid (N14_71.out.old hb73)
            clear hb73
            go_wp2_with fail
            refine hK.out _ _ ?_ (fun hHeld => ?_)
            exact H73.out
            clear hK K
            (try simp only [Act.put, List.setIfInBounds_toArray, List.set_cons_zero, List.set_cons_succ])
            refine wpAnyH_ready (rs := [12]) (by kernel_rfl) (by simp) ?_
            refine' (AllReadyH.cons (o := _) ?hir74_12 (fun K hK => ?br74_12) AllReadyH.nil)
            case hir74_12 => (simp only [List.getElem?_toArray, List.getElem?_cons_succ, List.getElem?_cons_zero]; rfl)
            case br74_12 =>
              go_simp
              refine (rSub _ _ _).mono ?_
              rintro e w75 ⟨rfl, hb75⟩
              have H75 := Lib.hid (H73.out.trans (hb75.mono H73.out.size))
              have N14_75 := Lib.hid (N14_73.out.old hb75)
              clear hb75
              go_wp2_with fail
              refine hK.out _ _ ?_ (fun hHeld => ?_)
              exact H75.out
              clear hK K
              (try simp only [Act.put, List.setIfInBounds_toArray, List.set_cons_zero, List.set_cons_succ])
              refine wpAnyH_ready (rs := [14]) (by kernel_rfl) (by simp) ?_
              refine' (AllReadyH.cons (o := _) ?hir76_14 (fun K hK => ?br76_14) AllReadyH.nil)
              case hir76_14 => (simp only [List.getElem?_toArray, List.getElem?_cons_succ, List.getElem?_cons_zero]; rfl)
              case br76_14 =>
                go_simp
                refine (C14.out _).mono ?_
                rintro e w77 ⟨rfl, hb77⟩
                have H77 := Lib.hid (H75.out.trans (hb77.mono H75.out.size))
                have N14_77 := Lib.hid (N14_75.out.old hb77)
                clear hb77
                go_wp2_with fail
                refine hK.out _ _ ?_ (fun hHeld => ?_)
                exact H77.out
                clear hK K
                (try simp only [Act.put, List.setIfInBounds_toArray, List.set_cons_zero, List.set_cons_succ])
                refine wpAnyH_ready (rs := [16]) (by kernel_rfl) (by simp) ?_
                refine' (AllReadyH.cons (o := _) ?hir78_16 (fun K hK => ?br78_16) AllReadyH.nil)
                case hir78_16 => (simp only [List.getElem?_toArray, List.getElem?_cons_succ, List.getElem?_cons_zero]; rfl)
                case br78_16 =>
                  refine step_of_wp rfl ?_
                  refine wp_store_row 35 (.tmp 14) (.tmp 58) rfl _ (cF k) rfl rfl 35 _ N14_77.out (cF_ok _).1 (of.out _) (cF_ok _).2 ?_
                  refine hK.out _ _ ?_ (fun hHeld => ?_)
                  exact below_row H77.out G14_69.out _
                  clear hK K
                  (try simp only [Act.put, List.setIfInBounds_toArray, List.set_cons_zero, List.set_cons_succ])
                  refine wpAnyH_done (by kernel_rfl) ?_ _
                  have FZ6 := Lib.hid ((Z6.out.old H77.out).rowFar (Nat.ne_of_lt (Nat.lt_of_lt_of_le Z6.out.lt G14_69.out)) (cF k))
                  have FX7 := Lib.hid ((X7.out.old H77.out).rowFar (Nat.ne_of_lt (Nat.lt_of_lt_of_le X7.out.lt G14_69.out)) (cF k))
                  have FX9 := Lib.hid ((X9.out.old H77.out).rowFar (Nat.ne_of_lt (Nat.lt_of_lt_of_le X9.out.lt G14_69.out)) (cF k))
                  have FX10 := Lib.hid ((X10.out.old H77.out).rowFar (Nat.ne_of_lt (Nat.lt_of_lt_of_le X10.out.lt G14_69.out)) (cF k))
                  have FX12 := Lib.hid ((X12.out.old H77.out).rowFar (Nat.ne_of_lt (Nat.lt_of_lt_of_le X12.out.lt G14_69.out)) (cF k))
                  have FX13 := Lib.hid ((X13.out.old H77.out).rowFar (Nat.ne_of_lt (Nat.lt_of_lt_of_le X13.out.lt G14_69.out)) (cF k))
                  have LL6 := Lib.hid (Nat.lt_of_lt_of_le Z6.out.lt G14_69.out)
                  have HF := Lib.hid (below_row (HB.out.trans (H77.out.mono HB.out.size)) (Nat.le_trans HB.out.size G14_69.out) (cF k))
                  have FN14 := Lib.hid (N14_77.out.row (cF k))
                  clear hHeld
                  go_wp2_with fail
                  go_meet
                  exact ⟨_, rfl, FN14.out, FZ6.out, FX7.out, FX9.out, FX10.out, FX12.out, FX13.out, HF.out, LL6.out⟩
    case br34_15 =>
      go_simp
      refine hK.out _ _ ?_ (fun hHeld => ?_)
      · exact (HBW13.out.alloc HBW13.out.size _)
      have H80 := Lib.hid (HBW13.out.alloc HBW13.out.size (.cells zf 35))
      have N14_80 := Lib.hid (alloc_new HBW13.out 35 zf)
      have G14_80 := Lib.hid HBW13.out.size
      clear hK K
      (try simp only [Act.put, List.setIfInBounds_toArray, List.set_cons_zero, List.set_cons_succ])
      refine wpAnyH_ready (rs := [4]) (by kernel_rfl) (by simp) ?_
      refine' (AllReadyH.cons (o := _) ?hir81_4 (fun K hK => ?br81_4) AllReadyH.nil)
      case hir81_4 => (simp only [List.getElem?_toArray, List.getElem?_cons_succ, List.getElem?_cons_zero]; rfl)
      case br81_4 =>
        go_simp
        refine (rAdd _ _ _).mono ?_
        rintro e w82 ⟨rfl, hb82⟩
        have H82 := Lib.hid (H80.out.trans (hb82.mono H80.out.size))
        have N14_82 := Lib.hid (N14_80.out.old hb82)
        clear hb82
        go_wp2_with fail
        refine hK.out _ _ ?_ (fun hHeld => ?_)
        exact H82.out
        clear hK K
        (try simp only [Act.put, List.setIfInBounds_toArray, List.set_cons_zero, List.set_cons_succ])
        refine wpAnyH_ready (rs := [9]) (by kernel_rfl) (by simp) ?_
        refine' (AllReadyH.cons (o := _) ?hir83_9 (fun K hK => ?br83_9) AllReadyH.nil)
        case hir83_9 => (simp only [List.getElem?_toArray, List.getElem?_cons_succ, List.getElem?_cons_zero]; rfl)
        case br83_9 =>
          go_simp
          refine (rAdd _ _ _).mono ?_
          rintro e w84 ⟨rfl, hb84⟩
          have H84 := Lib.hid (H82.out.trans (hb84.mono H82.out.size))
          have N14_84 := Lib.hid (N14_82.out.old hb84)
          clear hb84
          go_wp2_with fail
          refine hK.out _ _ ?_ (fun hHeld => ?_)
          exact H84.out
          clear hK K
          (try simp only [Act.put, List.setIfInBounds_toArray, List.set_cons_zero, List.set_cons_succ])
          refine wpAnyH_ready (rs := [10]) (by kernel_rfl) (by simp) ?_
          refine' (AllReadyH.cons (o := _) ?hir85_10 (fun K hK => ?br85_10) AllReadyH.nil)
          case hir85_10 => (simp only [List.getElem?_toArray, List.getElem?_cons_succ, List.getElem?_cons_zero]; rfl)
          case br85_10 =>
            go_simp
            refine (rMul _ _ _).mono ?_
            rintro e w86 ⟨rfl, hb86⟩
            have H86 := Lib.hid (H84.out.trans (hb86.mono H84.out.size))
            have N14_86 := Lib.hid (N14_84.out.old hb86)
            clear hb86
            go_wp2_with fail
            refine hK.out _ _ ?_ (fun hHeld => ?_)
            exact H86.out
            clear hK K
            (try simp only [Act.put, List.setIfInBounds_toArray, List.set_cons_zero, List.set_cons_succ])
            refine wpAnyH_ready (rs := [12]) (by kernel_rfl) (by simp) ?_
            refine' (AllReadyH.cons (o := _) ?hir87_12 (fun K hK => ?br87_12) AllReadyH.nil)
            case hir87_12 => (simp only [List.getElem?_toArray, List.getElem?_cons_succ, List.getElem?_cons_zero]; rfl)
            case br87_12 =>
              go_simp
              refine (rSub _ _ _).mono ?_
              rintro e w88 ⟨rfl, hb88⟩
              have H88 := Lib.hid (H86.out.trans (hb88.mono H86.out.size))
              have N14_88 := Lib.hid (N14_86.out.old hb88)
              clear hb88
              go_wp2_with fail
              refine hK.out _ _ ?_ (fun hHeld => ?_)
              exact H88.out
              clear hK K
              (try simp only [Act.put, List.setIfInBounds_toArray, List.set_cons_zero, List.set_cons_succ])
              refine wpAnyH_ready (rs := [14]) (by kernel_rfl) (by simp) ?_
              refine' (AllReadyH.cons (o := _) ?hir89_14 (fun K hK => ?br89_14) AllReadyH.nil)
              case hir89_14 => (simp only [List.getElem?_toArray, List.getElem?_cons_succ, List.getElem?_cons_zero]; rfl)
              case br89_14 =>
                go_simp
                refine (C14.out _).mono ?_
                rintro e w90 ⟨rfl, hb90⟩
                have H90 := Lib.hid (H88.out.trans (hb90.mono H88.out.size))
                have N14_90 := Lib.hid (N14_88.out.old hb90)
                clear hb90
                go_wp2_with fail
                refine hK.out _ _ ?_ (fun hHeld => ?_)
                exact H90.out
                clear hK K
                (try simp only [Act.put, List.setIfInBounds_toArray, List.set_cons_zero, List.set_cons_succ])
                refine wpAnyH_ready (rs := [16]) (by kernel_rfl) (by simp) ?_
                refine' (AllReadyH.cons (o := _) ?hir91_16 (fun K hK => ?br91_16) AllReadyH.nil)
                case hir91_16 => (simp only [List.getElem?_toArray, List.getElem?_cons_succ, List.getElem?_cons_zero]; rfl)
                case br91_16 =>
                  refine step_of_wp rfl ?_
                  refine wp_store_row 35 (.tmp 14) (.tmp 58) rfl _ (cF k) rfl rfl 35 _ N14_90.out (cF_ok _).1 (of.out _) (cF_ok _).2 ?_
                  refine hK.out _ _ ?_ (fun hHeld => ?_)
                  exact below_row H90.out G14_80.out _
                  clear hK K
                  (try simp only [Act.put, List.setIfInBounds_toArray, List.set_cons_zero, List.set_cons_succ])
                  refine wpAnyH_done (by kernel_rfl) ?_ _
                  have FZ6 := Lib.hid ((Z6.out.old H90.out).rowFar (Nat.ne_of_lt (Nat.lt_of_lt_of_le Z6.out.lt G14_80.out)) (cF k))
                  have FX7 := Lib.hid ((X7.out.old H90.out).rowFar (Nat.ne_of_lt (Nat.lt_of_lt_of_le X7.out.lt G14_80.out)) (cF k))
                  have FX9 := Lib.hid ((X9.out.old H90.out).rowFar (Nat.ne_of_lt (Nat.lt_of_lt_of_le X9.out.lt G14_80.out)) (cF k))
                  have FX10 := Lib.hid ((X10.out.old H90.out).rowFar (Nat.ne_of_lt (Nat.lt_of_lt_of_le X10.out.lt G14_80.out)) (cF k))
                  have FX12 := Lib.hid ((X12.out.old H90.out).rowFar (Nat.ne_of_lt (Nat.lt_of_lt_of_le X12.out.lt G14_80.out)) (cF k))
                  have FX13 := Lib.hid ((X13.out.old H90.out).rowFar (Nat.ne_of_lt (Nat.lt_of_lt_of_le X13.out.lt G14_80.out)) (cF k))
                  have LL6 := Lib.hid (Nat.lt_of_lt_of_le Z6.out.lt G14_80.out)
                  have HF := Lib.hid (below_row (HB.out.trans (H90.out.mono HB.out.size)) (Nat.le_trans HB.out.size G14_80.out) (cF k))
                  have FN14 := Lib.hid (N14_90.out.row (cF k))
                  clear hHeld
                  go_wp2_with fail
                  go_meet
                  exact ⟨_, rfl, FN14.out, FZ6.out, FX7.out, FX9.out, FX10.out, FX12.out, FX13.out, HF.out, LL6.out⟩
  case rest =>
  obtain ⟨g14, rfl, kn, k0, k1, k2, k3, k4, k5, kb, kl⟩ := hcut
  generalize wc = W14 at *
  clear A1 A2 Z6 X7 X8 X9 X10 X11 X12 X13 HB zlt
  have X14 := Lib.hid kn
  have Z6 := Lib.hid k0
  have X7 := Lib.hid k1
  have X9 := Lib.hid k2
  have X10 := Lib.hid k3
  have X12 := Lib.hid k4
  have X13 := Lib.hid k5
  have HB := Lib.hid kb
  have L14 := Lib.hid kl
  clear kn k0 k1 k2 k3 k4 k5 kb kl
  (try simp only [Act.put, List.setIfInBounds_toArray, List.set_cons_zero, List.set_cons_succ])
  have zlt : Hid (w.heap.size + 1 + 1 + 1 < W14.heap.size) := Lib.hid Z6.out.lt
  go_upto_region 9 with fail
  (try simp only [Act.put, List.setIfInBounds_toArray, List.set_cons_zero, List.set_cons_succ])
  refine wp_region_held_drew (S := fun V => Far (w.heap.size + 1 + 1 + 1) W14 V) (by kernel_rfl) (Far.of (Below.refl _ _).drew) (fun hHeld => ?_)
  have HBW14 := Lib.hid ((Below.refl W14.heap.size W14).drew)
  generalize W14.drew = VW14 at *
  refine' wpAnyH_take (i := 0) (oi := _) (v := .agg (cF a)) ?hit93 ?hst93 ?hft93 ?hrt93 ?hQt93 ?hyt93 ?hSt93 ?_
  case hit93 => (simp only [List.getElem?_toArray, List.getElem?_cons_succ, List.getElem?_cons_zero]; rfl)
  case hst93 => kernel_rfl
  case hft93 => kernel_rfl
  case hrt93 => kernel_rfl
  case hQt93 => exact fun _ _ _ h => h
  case hSt93 => assumption
  case hyt93 =>
    refine Or.inl ⟨by rfl, ?_⟩
    intro W hS
    exact quiet_load_row 35 (.tmp 7) _ rfl 35 (cF a) _ (hS _ _ _ (by have := L7.out; have := L9.out; have := L10.out; have := L12.out; have := L13.out; have := L14.out; omega) X7.out) Tryd.underlying35 rfl (cF_ok _).1 rfl
  (try simp only [Act.put, List.setIfInBounds_toArray, List.set_cons_zero, List.set_cons_succ])
  refine' wpAnyH_take (i := 1) (oi := _) (v := .agg (cF g)) ?hit94 ?hst94 ?hft94 ?hrt94 ?hQt94 ?hyt94 ?hSt94 ?_
  case hit94 => (simp only [List.getElem?_toArray, List.getElem?_cons_succ, List.getElem?_cons_zero]; rfl)
  case hst94 => kernel_rfl
  case hft94 => kernel_rfl
  case hrt94 => kernel_rfl
  case hQt94 => exact fun _ _ _ h => h
  case hSt94 => assumption
  case hyt94 =>
    refine Or.inl ⟨by rfl, ?_⟩
    intro W hS
    exact quiet_load_row 35 (.tmp 12) _ rfl 35 (cF g) _ (hS _ _ _ (by have := L7.out; have := L9.out; have := L10.out; have := L12.out; have := L13.out; have := L14.out; omega) X12.out) Tryd.underlying35 rfl (cF_ok _).1 rfl
  (try simp only [Act.put, List.setIfInBounds_toArray, List.set_cons_zero, List.set_cons_succ])
  refine' wpAnyH_take (i := 3) (oi := _) (v := .agg (cF k)) ?hit95 ?hst95 ?hft95 ?hrt95 ?hQt95 ?hyt95 ?hSt95 ?_
  case hit95 => (simp only [List.getElem?_toArray, List.getElem?_cons_succ, List.getElem?_cons_zero]; rfl)
  case hst95 => kernel_rfl
  case hft95 => kernel_rfl
  case hrt95 => kernel_rfl
  case hQt95 => exact fun _ _ _ h => h
  case hSt95 => assumption
  case hyt95 =>
    refine Or.inl ⟨by rfl, ?_⟩
    intro W hS
    exact quiet_load_row 35 (.tmp 14) _ rfl 35 (cF k) _ (hS _ _ _ (by have := L7.out; have := L9.out; have := L10.out; have := L12.out; have := L13.out; have := L14.out; omega) X14.out) Tryd.underlying35 rfl (cF_ok _).1 rfl
  (try simp only [Act.put, List.setIfInBounds_toArray, List.set_cons_zero, List.set_cons_succ])
  refine' wpAnyH_take (i := 5) (oi := _) (v := .agg (cF a)) ?hit96 ?hst96 ?hft96 ?hrt96 ?hQt96 ?hyt96 ?hSt96 ?_
  case hit96 => (simp only [List.getElem?_toArray, List.getElem?_cons_succ, List.getElem?_cons_zero]; rfl)
  case hst96 => kernel_rfl
  case hft96 => kernel_rfl
  case hrt96 => kernel_rfl
  case hQt96 => exact fun _ _ _ h => h
  case hSt96 => assumption
  case hyt96 =>
    refine Or.inl ⟨by rfl, ?_⟩
    intro W hS
    exact quiet_load_row 35 (.tmp 7) _ rfl 35 (cF a) _ (hS _ _ _ (by have := L7.out; have := L9.out; have := L10.out; have := L12.out; have := L13.out; have := L14.out; omega) X7.out) Tryd.underlying35 rfl (cF_ok _).1 rfl
  (try simp only [Act.put, List.setIfInBounds_toArray, List.set_cons_zero, List.set_cons_succ])
  refine' wpAnyH_take (i := 6) (oi := _) (v := .agg (cF h)) ?hit97 ?hst97 ?hft97 ?hrt97 ?hQt97 ?hyt97 ?hSt97 ?_
  case hit97 => (simp only [List.getElem?_toArray, List.getElem?_cons_succ, List.getElem?_cons_zero]; rfl)
  case hst97 => kernel_rfl
  case hft97 => kernel_rfl
  case hrt97 => kernel_rfl
  case hQt97 => exact fun _ _ _ h => h
  case hSt97 => assumption
  case hyt97 =>
    refine Or.inl ⟨by rfl, ?_⟩
    intro W hS
    exact quiet_load_row 35 (.tmp 13) _ rfl 35 (cF h) _ (hS _ _ _ (by have := L7.out; have := L9.out; have := L10.out; have := L12.out; have := L13.out; have := L14.out; omega) X13.out) Tryd.underlying35 rfl (cF_ok _).1 rfl
  (try simp only [Act.put, List.setIfInBounds_toArray, List.set_cons_zero, List.set_cons_succ])
  refine' wpAnyH_take (i := 8) (oi := _) (v := .agg (cF e)) ?hit98 ?hst98 ?hft98 ?hrt98 ?hQt98 ?hyt98 ?hSt98 ?_
  case hit98 => (simp only [List.getElem?_toArray, List.getElem?_cons_succ, List.getElem?_cons_zero]; rfl)
  case hst98 => kernel_rfl
  case hft98 => kernel_rfl
  case hrt98 => kernel_rfl
  case hQt98 => exact fun _ _ _ h => h
  case hSt98 => assumption
  case hyt98 =>
    refine Or.inl ⟨by rfl, ?_⟩
    intro W hS
    exact quiet_load_row 35 (.tmp 10) _ rfl 35 (cF e) _ (hS _ _ _ (by have := L7.out; have := L9.out; have := L10.out; have := L12.out; have := L13.out; have := L14.out; omega) X10.out) Tryd.underlying35 rfl (cF_ok _).1 rfl
  (try simp only [Act.put, List.setIfInBounds_toArray, List.set_cons_zero, List.set_cons_succ])
  refine' wpAnyH_take (i := 9) (oi := _) (v := .agg (cF c)) ?hit99 ?hst99 ?hft99 ?hrt99 ?hQt99 ?hyt99 ?hSt99 ?_
  case hit99 => (simp only [List.getElem?_toArray, List.getElem?_cons_succ, List.getElem?_cons_zero]; rfl)
  case hst99 => kernel_rfl
  case hft99 => kernel_rfl
  case hrt99 => kernel_rfl
  case hQt99 => exact fun _ _ _ h => h
  case hSt99 => assumption
  case hyt99 =>
    refine Or.inl ⟨by rfl, ?_⟩
    intro W hS
    exact quiet_load_row 35 (.tmp 9) _ rfl 35 (cF c) _ (hS _ _ _ (by have := L7.out; have := L9.out; have := L10.out; have := L12.out; have := L13.out; have := L14.out; omega) X9.out) Tryd.underlying35 rfl (cF_ok _).1 rfl
  (try simp only [Act.put, List.setIfInBounds_toArray, List.set_cons_zero, List.set_cons_succ])
  refine' wpAnyH_take (i := 12) (oi := _) (v := .agg (cF g)) ?hit100 ?hst100 ?hft100 ?hrt100 ?hQt100 ?hyt100 ?hSt100 ?_
  case hit100 => (simp only [List.getElem?_toArray, List.getElem?_cons_succ, List.getElem?_cons_zero]; rfl)
  case hst100 => kernel_rfl
  case hft100 => kernel_rfl
  case hrt100 => kernel_rfl
  case hQt100 => exact fun _ _ _ h => h
  case hSt100 => assumption
  case hyt100 =>
    refine Or.inl ⟨by rfl, ?_⟩
    intro W hS
    exact quiet_load_row 35 (.tmp 12) _ rfl 35 (cF g) _ (hS _ _ _ (by have := L7.out; have := L9.out; have := L10.out; have := L12.out; have := L13.out; have := L14.out; omega) X12.out) Tryd.underlying35 rfl (cF_ok _).1 rfl
  (try simp only [Act.put, List.setIfInBounds_toArray, List.set_cons_zero, List.set_cons_succ])
  refine' wpAnyH_take (i := 13) (oi := _) (v := .agg (cF h)) ?hit101 ?hst101 ?hft101 ?hrt101 ?hQt101 ?hyt101 ?hSt101 ?_
  case hit101 => (simp only [List.getElem?_toArray, List.getElem?_cons_succ, List.getElem?_cons_zero]; rfl)
  case hst101 => kernel_rfl
  case hft101 => kernel_rfl
  case hrt101 => kernel_rfl
  case hQt101 => exact fun _ _ _ h => h
  case hSt101 => assumption
  case hyt101 =>
    refine Or.inl ⟨by rfl, ?_⟩
    intro W hS
    exact quiet_load_row 35 (.tmp 13) _ rfl 35 (cF h) _ (hS _ _ _ (by have := L7.out; have := L9.out; have := L10.out; have := L12.out; have := L13.out; have := L14.out; omega) X13.out) Tryd.underlying35 rfl (cF_ok _).1 rfl
  (try simp only [Act.put, List.setIfInBounds_toArray, List.set_cons_zero, List.set_cons_succ])
  refine wpAnyH_ready (rs := [2]) (by kernel_rfl) (by simp) ?_
  refine' (AllReadyH.cons (o := _) ?hir102_2 (fun K hK => ?br102_2) AllReadyH.nil)
  case hir102_2 => (simp only [List.getElem?_toArray, List.getElem?_cons_succ, List.getElem?_cons_zero]; rfl)
  case br102_2 =>
    go_simp
    refine (rMul _ _ _).mono ?_
    rintro e w103 ⟨rfl, hb103⟩
    have H103 := Lib.hid (HBW14.out.trans (hb103.mono HBW14.out.size))
    clear hb103
    go_wp2_with fail
    refine hK.out _ _ ?_ (fun hHeld => ?_)
    exact Far.of H103.out
    clear hK K
    (try simp only [Act.put, List.setIfInBounds_toArray, List.set_cons_zero, List.set_cons_succ])
    refine wpAnyH_ready (rs := [4]) (by kernel_rfl) (by simp) ?_
    refine' (AllReadyH.cons (o := _) ?hir104_4 (fun K hK => ?br104_4) AllReadyH.nil)
    case hir104_4 => (simp only [List.getElem?_toArray, List.getElem?_cons_succ, List.getElem?_cons_zero]; rfl)
    case br104_4 =>
      go_simp
      refine (C63.out _).mono ?_
      rintro e w105 ⟨rfl, hb105⟩
      have H105 := Lib.hid (H103.out.trans (hb105.mono H103.out.size))
      clear hb105
      go_wp2_with fail
      refine hK.out _ _ ?_ (fun hHeld => ?_)
      exact Far.of H105.out
      clear hK K
      (try simp only [Act.put, List.setIfInBounds_toArray, List.set_cons_zero, List.set_cons_succ])
      refine wpAnyH_ready (rs := [7]) (by kernel_rfl) (by simp) ?_
      refine' (AllReadyH.cons (o := _) ?hir106_7 (fun K hK => ?br106_7) AllReadyH.nil)
      case hir106_7 => (simp only [List.getElem?_toArray, List.getElem?_cons_succ, List.getElem?_cons_zero]; rfl)
      case br106_7 =>
        go_simp
        refine (rMul _ _ _).mono ?_
        rintro e w107 ⟨rfl, hb107⟩
        have H107 := Lib.hid (H105.out.trans (hb107.mono H105.out.size))
        clear hb107
        go_wp2_with fail
        refine hK.out _ _ ?_ (fun hHeld => ?_)
        exact Far.of H107.out
        clear hK K
        (try simp only [Act.put, List.setIfInBounds_toArray, List.set_cons_zero, List.set_cons_succ])
        refine wpAnyH_ready (rs := [10]) (by kernel_rfl) (by simp) ?_
        refine' (AllReadyH.cons (o := _) ?hir108_10 (fun K hK => ?br108_10) AllReadyH.nil)
        case hir108_10 => (simp only [List.getElem?_toArray, List.getElem?_cons_succ, List.getElem?_cons_zero]; rfl)
        case br108_10 =>
          go_simp
          refine (rAdd _ _ _).mono ?_
          rintro e w109 ⟨rfl, hb109⟩
          have H109 := Lib.hid (H107.out.trans (hb109.mono H107.out.size))
          clear hb109
          go_wp2_with fail
          refine hK.out _ _ ?_ (fun hHeld => ?_)
          exact Far.of H109.out
          clear hK K
          (try simp only [Act.put, List.setIfInBounds_toArray, List.set_cons_zero, List.set_cons_succ])
          refine wpAnyH_ready (rs := [11]) (by kernel_rfl) (by simp) ?_
          refine' (AllReadyH.cons (o := _) ?hir110_11 (fun K hK => ?br110_11) AllReadyH.nil)
          case hir110_11 => (simp only [List.getElem?_toArray, List.getElem?_cons_succ, List.getElem?_cons_zero]; rfl)
          case br110_11 =>
            go_simp
            refine (C70.out _).mono ?_
            rintro e w111 ⟨rfl, hb111⟩
            have H111 := Lib.hid (H109.out.trans (hb111.mono H109.out.size))
            clear hb111
            go_wp2_with fail
            refine hK.out _ _ ?_ (fun hHeld => ?_)
            exact Far.of H111.out
            clear hK K
            (try simp only [Act.put, List.setIfInBounds_toArray, List.set_cons_zero, List.set_cons_succ])
            refine wpAnyH_ready (rs := [14]) (by kernel_rfl) (by simp) ?_
            refine' (AllReadyH.cons (o := _) ?hir112_14 (fun K hK => ?br112_14) AllReadyH.nil)
            case hir112_14 => (simp only [List.getElem?_toArray, List.getElem?_cons_succ, List.getElem?_cons_zero]; rfl)
            case br112_14 =>
              go_simp
              refine (C73.out _).mono ?_
              rintro e w113 ⟨rfl, hb113⟩
              have H113 := Lib.hid (H111.out.trans (hb113.mono H111.out.size))
              clear hb113
              go_wp2_with fail
              refine hK.out _ _ ?_ (fun hHeld => ?_)
              exact Far.of H113.out
              clear hK K
              (try simp only [Act.put, List.setIfInBounds_toArray, List.set_cons_zero, List.set_cons_succ])
              refine' wpAnyH_take (i := 15) (oi := _) (v := .agg R) ?hit114 ?hst114 ?hft114 ?hrt114 ?hQt114 ?hyt114 ?hSt114 ?_
              case hit114 => (simp only [List.getElem?_toArray, List.getElem?_cons_succ, List.getElem?_cons_zero]; rfl)
              case hst114 => kernel_rfl
              case hft114 => kernel_rfl
              case hrt114 => kernel_rfl
              case hQt114 => exact fun _ _ _ h => h
              case hSt114 => assumption
              case hyt114 =>
                refine Or.inl ⟨by rfl, ?_⟩
                intro W hS
                exact quiet_build_to 37 #[(0, .tmp 63), (1, .tmp 70), (2, .tmp 73)] rfl [(0, .agg (cF r1)), (1, .agg (cF r2)), (2, .agg (cF r3))] (by simp [Act.eval]) R hBu.out
              (try simp only [Act.put, List.setIfInBounds_toArray, List.set_cons_zero, List.set_cons_succ])
              refine wpAnyH_ready (rs := [16]) (by kernel_rfl) (by simp) ?_
              refine' (AllReadyH.cons (o := _) ?hir115_16 (fun K hK => ?br115_16) AllReadyH.nil)
              case hir115_16 => (simp only [List.getElem?_toArray, List.getElem?_cons_succ, List.getElem?_cons_zero]; rfl)
              case br115_16 =>
                refine step_of_wp rfl ?_
                refine wp_store_row 37 (.tmp 6) (.tmp 74) rfl (w.heap.size + 1 + 1 + 1) R rfl rfl 37 z (Z6.out.old H113.out) ok.out.1 ok.out.2.2 ok.out.2.1 ?_
                refine hK.out _ _ ?_ (fun hHeld => ?_)
                exact (Far.of H113.out).row _
                clear hK K
                (try simp only [Act.put, List.setIfInBounds_toArray, List.set_cons_zero, List.set_cons_succ])
                refine wpAnyH_done (by kernel_rfl) ?_ _
                have HF := Lib.hid (below_row (g := w.heap.size + 1 + 1 + 1) (HB.out.trans (H113.out.mono HB.out.size)) (by omega) R)
                have F2 := Lib.hid ((Z6.out.old H113.out).row R)
                clear hHeld
                go_wp2_with fail
                refine bodyPost_ret (v := .agg R) ?_ rfl ⟨rfl, HF.out⟩
                exact results_cell_row Tryd.results44 _ _ (w.heap.size + 1 + 1 + 1) 37 _ (0, 0) _ rfl F2.out Tryd.underlying37 rfl ok.out.1
end Go.Proofs.YtjiadbaaggifpaaDoor
end

section
set_option linter.unusedVariables false
set_option linter.unusedSimpArgs false
namespace F5
theorem bit_of8 (q i : Nat) : (q / 256 ^ (i / 8) % 256) / 2 ^ (i % 8) % 2 = q / 2 ^ i % 2 := by
  have e1 : 256 ^ (i / 8) = 2 ^ (8 * (i / 8)) := by rw [show 256 = 2 ^ 8 from rfl, ← Nat.pow_mul]
  have e2 : 2 ^ i = 2 ^ (8 * (i / 8)) * 2 ^ (i % 8) := by rw [← Nat.pow_add, Nat.div_add_mod]
  rw [e1, e2, ← Nat.div_div_eq_div_mul]
  generalize q / 2 ^ (8 * (i / 8)) = y
  have hr : i % 8 < 8 := Nat.mod_lt _ (by decide)
  generalize i % 8 = r at hr ⊢
  have h8 : r = 0 ∨ r = 1 ∨ r = 2 ∨ r = 3 ∨ r = 4 ∨ r = 5 ∨ r = 6 ∨ r = 7 := by omega
  rcases h8 with rfl | rfl | rfl | rfl | rfl | rfl | rfl | rfl <;> omega
end F5
namespace Go.Proofs.YtjiadbaaggifpaaDoor
open Go Go.Proofs Go.RowKit F5

/-- These cells stand for this point. -/
def PtAt (p : Pt) (c : Array Value) : Prop := ∃ X Y Z, Rep p X Y Z ∧ c = pV X Y Z
theorem PtAt.ok {p : Pt} {c : Array Value} (h : PtAt p c) : (Tryd.prog.info? 37).map (·.size) = some c.size ∧ c.all (·.oneCell') = true ∧ c.size = 48 := by
  obtain ⟨X, Y, Z, _, rfl⟩ := h
  exact ⟨pV_info _ _ _, pV_one _ _ _, pV_size _ _ _⟩
theorem PtAt.zero : PtAt pzero (pV 0 1 1) := ⟨0, 1, 1, rep_zero, rfl⟩
theorem refPlus_any {p q : Pt} {c1 c2 : Array Value} (h1 : PtAt p c1) (h2 : PtAt q c2) (w : World) :
    Calls Tryd.prog 44 #[.agg c1, .agg c2, .agg (cF dE)] w fun e w' => ∃ c, e = .returned (.agg c) ∧ PtAt (padd p q) c ∧ Below w.heap.size w w' := by
  obtain ⟨X1, Y1, Z1, r1, rfl⟩ := h1
  obtain ⟨X2, Y2, Z2, r2, rfl⟩ := h2
  refine (refAdd_P X1 Y1 Z1 X2 Y2 Z2 dE _ _ _ _ _ _ _ _ _ _ _ rfl rfl rfl rfl rfl rfl rfl rfl rfl rfl rfl w).mono ?_
  rintro e w' ⟨rfl, hb⟩
  exact ⟨_, rfl, ⟨_, _, _, rep_add r1 r2, rfl⟩, hb⟩
theorem refNegPt_any {p : Pt} {c1 : Array Value} (h1 : PtAt p c1) (w : World) :
    Calls Tryd.prog 18 #[.agg c1] w fun e w' => ∃ c, e = .returned (.agg c) ∧ PtAt (pneg p) c ∧ Below w.heap.size w w' := by
  obtain ⟨X1, Y1, Z1, r1, rfl⟩ := h1
  refine (refNegP_any X1 Y1 Z1 w).mono ?_
  rintro e w' ⟨rfl, hb⟩
  exact ⟨_, rfl, ⟨_, _, _, rep_neg r1, rfl⟩, hb⟩
theorem PtAt.base : PtAt pbase (pV pbase.x pbase.y 1) := ⟨_, _, _, rep_one pbase, rfl⟩

def TimAt (w : World) (A z dc : Array Value) (g5 : Nat) (o : Array Value) (g6 : Nat) (wr : World) : Prop :=
  Blk wr w.heap.size 37 A ∧ Blk wr (w.heap.size + 1) 37 z ∧ Blk wr g5 35 dc ∧ Blk wr g6 37 o ∧ Below w.heap.size w wr ∧ w.heap.size + 1 < g5 ∧ g5 < g6
theorem TimAt.next {w wr w' : World} {A z dc o : Array Value} {g5 g6 : Nat} (h : TimAt w A z dc g5 o g6 wr) (hb : Below wr.heap.size wr w') : TimAt w A z dc g5 o g6 w' :=
  ⟨h.1.old hb, h.2.1.old hb, h.2.2.1.old hb, h.2.2.2.1.old hb, h.2.2.2.2.1.trans (hb.mono h.2.2.2.2.1.size), h.2.2.2.2.2.1, h.2.2.2.2.2.2⟩
theorem TimAt.row {w wr : World} {A z dc o : Array Value} {g5 g6 : Nat} (h : TimAt w A z dc g5 o g6 wr) (x : Array Value) : TimAt w A z dc g5 x g6 (wr.setRow g6 x) := by
  obtain ⟨h1, h2, h3, h4, h5, h6, h7⟩ := h
  exact ⟨h1.rowFar (by omega) x, h2.rowFar (by omega) x, h3.rowFar (by omega) x, h4.row x, below_row h5 (by omega) x, h6, h7⟩

set_option maxHeartbeats 1000000 in
set_option maxRecDepth 100000 in
theorem refTimes_any {p : Pt} {A : Array Value} (hA : PtAt p A) (v : Nat) (hv : v < 2 ^ 256) (ad : Addr) (c : Nat) (w : World) (hr : Reads w w.heap.size 1 (some ad) 32 (Lib.byteCells (fbytes v))) :
    Calls Tryd.prog 23 #[.agg A, .slice (some ad) 32 c] w fun e w' => ∃ o, e = .returned (.agg o) ∧ PtAt (pmul v p) o ∧ Below w.heap.size w w' := by
  have HA := Lib.hid hA
  have HR := Lib.hid hr
  obtain ⟨z, hz⟩ : ∃ z, Hid (z = pV 0 0 0) := ⟨_, Lib.hid rfl⟩
  have hz0 : ∀ W, (zeroValue 37).run Tryd.prog W = .ok (.agg z) W := by rw [hz.out]; exact zeroP
  obtain ⟨zf, hzf⟩ : ∃ z, Hid (z = cF 0) := ⟨_, Lib.hid rfl⟩
  have hzf0 : ∀ W, (zeroValue 35).run Tryd.prog W = .ok (.agg zf) W := by rw [hzf.out]; exact zeroF
  have zs : Hid (z.size = 48) := Lib.hid (by rw [hz.out]; exact pV_size _ _ _)
  have okd := Lib.hid (cF_ok dE)
  have szd : Hid (zf.size = (cF dE).size) := Lib.hid (by rw [hzf.out]; exact cF_sz _ _)
  have CD : Hid (∀ V, Calls Tryd.prog 45 #[] V fun e w' => e = .returned (.agg (cF dE)) ∧ Below V.heap.size V w') := Lib.hid refD_any
  have CP : Hid (∀ (q r : Pt) (c1 c2 : Array Value), PtAt q c1 → PtAt r c2 → ∀ V, Calls Tryd.prog 44 #[.agg c1, .agg c2, .agg (cF dE)] V fun e w' => ∃ c, e = .returned (.agg c) ∧ PtAt (padd q r) c ∧ Below V.heap.size V w') := Lib.hid fun q r c1 c2 h1 h2 V => refPlus_any h1 h2 V
  have CZ : Hid (∀ V, Calls Tryd.prog 51 #[] V fun e w' => ∃ c, e = .returned (.agg c) ∧ PtAt pzero c ∧ Below V.heap.size V w') := Lib.hid fun V => (refZero_any V).mono fun e w' h => ⟨_, h.1, PtAt.zero, h.2⟩
  generalize cF dE = dc at *
  obtain ⟨x1, x2, x3⟩ := two_pts w A z
  clear hz hzf hA hr
  go_enter Tryd.func23, Tryd.ntmps23
  go_upto_region 1 with fail
  generalize (w.alloc (.cells A 37)).alloc (.cells z 37) = W at *
  go_wp2_with fail
  refine (CD.out _).mono ?_
  rintro e w1 ⟨rfl, hb⟩
  have Y1 := Lib.hid ((x1.old hb).alloc (.cells dc 35))
  have Y2 := Lib.hid ((x2.old hb).alloc (.cells dc 35))
  have HB := Lib.hid ((x3.trans (hb.mono x3.size)).alloc (x3.trans (hb.mono x3.size)).size (.cells dc 35))
  have Y5 := Lib.hid (Blk.new w1 35 dc)
  have L5 : Hid (w.heap.size + 1 < w1.heap.size) := Lib.hid (Nat.lt_of_lt_of_le x2.lt hb.size)
  clear hb x1 x2 x3
  go_upto_region 2 with (first | (refine wpList_store_row rfl 35 (.tmp 5) (.tmp 10) rfl w1.heap.size dc rfl rfl 35 _ (heap_alloc_new w1 _) okd.out.1 szd.out okd.out.2 ?_; rw [setRow_alloc1]))
  generalize w1.alloc (.cells dc 35) = W1 at *
  generalize w1.heap.size = g5 at *
  go_wp2_with fail
  refine (CZ.out _).mono ?_
  rintro e w2 ⟨o0, rfl, ho0, hb⟩
  have hT : TimAt w A z dc g5 o0 w2.heap.size (w2.alloc (.cells o0 37)) :=
    ⟨(Y1.out.old hb).alloc _, (Y2.out.old hb).alloc _, (Y5.out.old hb).alloc _, Blk.new _ _ _, (HB.out.trans (hb.mono HB.out.size)).alloc (HB.out.trans (hb.mono HB.out.size)).size _, L5.out, Nat.lt_of_lt_of_le Y5.out.lt hb.size⟩
  have HT := Lib.hid hT
  have HO := Lib.hid ho0
  have ok0 := Lib.hid ho0.ok
  have sz0 : Hid (z.size = o0.size) := Lib.hid (by rw [zs.out, ok0.out.2.2])
  clear hb hT ho0 Y1 Y2 Y5 HB L5
  go_upto_region 3 with (first | (refine wpList_store_row rfl 37 (.tmp 6) (.tmp 11) rfl w2.heap.size o0 rfl rfl 37 _ (heap_alloc_new w2 _) ok0.out.1 sz0.out ok0.out.2.1 ?_; rw [setRow_alloc1]))
  generalize w2.alloc (.cells o0 37) = W2 at *
  generalize w2.heap.size = g6 at *
  (try simp only [Act.put, List.setIfInBounds_toArray, List.set_cons_zero, List.set_cons_succ])
  go_wp2_with fail
  have hv256 : Hid (v / 2 ^ 256 = 0) := Lib.hid (Nat.div_eq_of_lt hv)
  go_loopg [7] 256 (fun gg iv wr => ∃ (j : Nat) (o : Array Value), iv = .int .i64 ((j : Int) - 1) ∧ gg = j ∧ j ≤ 256 ∧ PtAt (pmul (v / 2 ^ j) p) o ∧ TimAt w A z dc g5 o g6 wr)
  case atStart => exact ⟨256, o0, rfl, rfl, by omega, by rw [hv256.out]; exact HO.out, HT.out⟩
  case round =>
    obtain ⟨j, o, hiv, hg, hj, hO, hT⟩ := hrel
    clear HT HO ok0 sz0
    have HT := Lib.hid hT
    have HO := Lib.hid hO
    have oko := Lib.hid hO.ok
    clear hT hO
    by_cases hlt : 0 < j
    · obtain ⟨i, rfl⟩ : ∃ i, j = i + 1 := ⟨j - 1, by omega⟩
      rw [show ((i + 1 : Nat) : Int) - 1 = (i : Int) by omega] at hiv
      subst hiv
      have HG := Lib.hid hg
      have hil : i < 256 := by omega
      obtain ⟨d, hd⟩ := named (i / 8)
      obtain ⟨r, hr⟩ := named (i % 8)
      have hd32 : d < 32 := by rw [hd.out]; omega
      have d1 : (i : Int) / 8 = (d : Int) := by rw [hd.out]; omega
      have d2 : (i : Int).tdiv 8 = (d : Int) := by rw [Int.tdiv_eq_ediv_of_nonneg (by omega)]; omega
      have d3 : (i : Int) % 8 = (r : Int) := by rw [hr.out]; omega
      have d4 : (i : Int).tmod 8 = (r : Int) := by rw [Int.tmod_eq_emod_of_nonneg (by omega)]; omega
      have dw : IntKind.i64.wrap (d : Int) = (d : Int) := IntWalk.i64_in _ (by omega)
      have iw : IntKind.i64.wrap ((i : Int) - 1) = (i : Int) - 1 := IntWalk.i64_in _ (by omega)
      have HJ := Lib.hid hj
      clear hj hg hlt
      go_wp2_with (first | (refine wpList_load_row rfl 37 (.tmp 6) rfl g6 rfl 37 o (0, 0) _ HT.out.2.2.2.1 Tryd.underlying37 rfl oko.out.1 ?_) |
        (refine wpList_load_row rfl 35 (.tmp 5) rfl g5 rfl 35 dc (0, 0) _ HT.out.2.2.1 Tryd.underlying35 rfl okd.out.1 ?_))
      refine (CP.out _ _ _ _ HO.out HO.out _).mono ?_
      rintro e w3 ⟨cb, rfl, hcb, hb1⟩
      have HT1 := Lib.hid (HT.out.next hb1)
      clear hb1
      have HCB := Lib.hid hcb
      have okb := Lib.hid hcb.ok
      have szb : Hid (o.size = cb.size) := Lib.hid (by rw [oko.out.2.2, okb.out.2.2])
      have ht2 := HT1.out.row cb
      clear hcb
      go_upto_region 7 with (first | (refine wpList_store_row rfl 37 (.tmp 6) (.tmp 19) rfl g6 cb rfl rfl 37 o HT1.out.2.2.2.1 okb.out.1 szb.out okb.out.2.1 ?_))
      generalize w3.setRow g6 cb = W3 at *
      obtain ⟨ad', hA', hadb, hcell⟩ := (HR.out.below ht2.2.2.2.2.1).2 (by omega)
      injection hA' with hA'
      subst hA'
      have hx := hcell d _ (show (Lib.byteCells (fbytes v))[d]? = some (.int .u8 (((fbytes v).getD d 0).toNat : Int)) by
        have h1 : d < (fbytes v).length := by rw [fbytes_length]; omega
        simp [Lib.byteCells, List.getD, List.getElem?_eq_getElem h1])
      obtain ⟨x, hxx⟩ := named ((fbytes v).getD d 0).toNat
      rw [← hxx.out] at hx
      have hxB : x < 256 := by rw [hxx.out]; exact ((fbytes v).getD d 0).toNat_lt
      have HB3 : Hid (x / 2 ^ r % 2 = v / 2 ^ i % 2) := Lib.hid (by rw [hxx.out, fbytes_get v d hd32, hr.out, hd.out]; exact bit_of8 v i)
      have HT2 := Lib.hid ht2
      clear ht2 HT1 hcell
      go_wp2_with fail
      clear hx
      (try simp only [Act.put, List.setIfInBounds_toArray, List.set_cons_zero, List.set_cons_succ])
      go_loopg [8, 9] r (fun gg bv kv w1 => ∃ k y : Nat, bv = .int .u8 (y : Int) ∧ kv = .int .i64 (k : Int) ∧ gg + k = r ∧ y = x / 2 ^ k ∧ TimAt w A z dc g5 cb g6 w1)
      case atStart => exact ⟨0, x, rfl, rfl, rfl, by simp, HT2.out⟩
      case round =>
        obtain ⟨k, y, rfl, rfl, hgk, hy, hT1⟩ := hrel
        clear HT2
        have HT1 := Lib.hid hT1
        have HY := Lib.hid hy
        clear hT1
        have hyl : y < 256 := by rw [hy]; exact Nat.lt_of_le_of_lt (Nat.div_le_self _ _) hxB
        clear hy
        by_cases hk : k < r
        · obtain ⟨y2, hy2⟩ := named (y / 2)
          have e1' : (y : Int) / 2 = (y2 : Int) := by rw [hy2.out]; omega
          have e2' : (y : Int).tdiv 2 = (y2 : Int) := by rw [Int.tdiv_eq_ediv_of_nonneg (by omega)]; omega
          have e3' : IntKind.u8.wrap (y2 : Int) = (y2 : Int) := by rw [IntKind.wrap_u8', hy2.out]; omega
          have hr8 : r < 8 := by rw [hr.out]; exact Nat.mod_lt _ (by decide)
          go_wp2
          go_roundg (gk - 1)
          case measure => omega
          case rel => exact ⟨k + 1, y2, rfl, by go_num, by omega, by rw [hy2.out, HY.out, Nat.pow_succ, Nat.div_div_eq_div_mul], HT1.out⟩
        · obtain rfl : k = r := by omega
          obtain ⟨b, hb⟩ := named (y % 2)
          have e1' : (y : Int) % 2 = (b : Int) := by rw [hb.out]; omega
          have e2' : (y : Int).tmod 2 = (b : Int) := by rw [Int.tmod_eq_emod_of_nonneg (by omega)]; omega
          have e3' : IntKind.u8.wrap (b : Int) = (b : Int) := by rw [IntKind.wrap_u8', hb.out]; omega
          have hbit : Hid (v / 2 ^ i % 2 = b) := Lib.hid (by rw [hb.out, HY.out, HB3.out])
          have hb01 : b = 0 ∨ b = 1 := by rw [hb.out]; omega
          clear HB3
          rcases hb01 with hb0 | hb0
          · have E : Hid (PtAt (pmul (v / 2 ^ i) p) cb) := Lib.hid (by
              rw [pmul_bit, if_neg (by rw [hbit.out, hb0]; decide)]; exact HCB.out)
            clear hbit hb
            subst hb0
            go_wp2_with fail
            go_roundg i
            case measure => have := HG.out; omega
            case rel => exact ⟨i, cb, rfl, rfl, by omega, E.out, HT1.out⟩
          · have hpb : Hid (pmul (v / 2 ^ i) p = padd (padd (pmul (v / 2 ^ (i + 1)) p) (pmul (v / 2 ^ (i + 1)) p)) p) := Lib.hid (by
              rw [pmul_bit, if_pos (by rw [hbit.out, hb0])])
            clear hbit hb
            subst hb0
            have okA := Lib.hid HA.out.ok
            go_wp2_with (first | (refine wpList_load_row rfl 37 (.tmp 6) rfl g6 rfl 37 cb (0, 0) _ HT1.out.2.2.2.1 Tryd.underlying37 rfl okb.out.1 ?_) |
              (refine wpList_load_row rfl 37 (.tmp 2) rfl w.heap.size rfl 37 A (0, 0) _ HT1.out.1 Tryd.underlying37 rfl okA.out.1 ?_) |
              (refine wpList_load_row rfl 35 (.tmp 5) rfl g5 rfl 35 dc (0, 0) _ HT1.out.2.2.1 Tryd.underlying35 rfl okd.out.1 ?_))
            refine (CP.out _ _ _ _ HCB.out HA.out _).mono ?_
            rintro e w4 ⟨cd, rfl, hcd, hb1⟩
            have HT3 := Lib.hid (HT1.out.next hb1)
            clear hb1
            have HCD := Lib.hid hcd
            have okc := Lib.hid hcd.ok
            have szc : Hid (cb.size = cd.size) := Lib.hid (by rw [okb.out.2.2, okc.out.2.2])
            have HT4 := Lib.hid (HT3.out.row cd)
            clear hcd
            go_wp2_with (first | (refine wpList_store_row rfl 37 (.tmp 6) (.tmp 39) rfl g6 cd rfl rfl 37 cb HT3.out.2.2.2.1 okc.out.1 szc.out okc.out.2.1 ?_))
            go_roundg i
            case measure => have := HG.out; omega
            case rel => exact ⟨i, cd, rfl, rfl, by omega, by rw [hpb.out]; exact HCD.out, HT4.out⟩
    · obtain rfl : j = 0 := by omega
      rw [show ((0 : Nat) : Int) - 1 = -1 by omega] at hiv
      subst hiv
      have HF := Lib.hid (below_row HT.out.2.2.2.2.1 (Nat.le_succ _) o)
      have F2 := Lib.hid (HT.out.2.1.row o)
      have szo : Hid (z.size = o.size) := Lib.hid (by rw [zs.out, oko.out.2.2])
      have HE : Hid (PtAt (pmul v p) o) := Lib.hid (by have := HO.out; rwa [Nat.pow_zero, Nat.div_one] at this)
      clear hg hj hlt
      go_wp2_with (first | (refine wpList_load_row rfl 37 (.tmp 6) rfl g6 rfl 37 o (0, 0) _ HT.out.2.2.2.1 Tryd.underlying37 rfl oko.out.1 ?_) |
        (refine wpList_store_row rfl 37 (.tmp 4) (.tmp 40) rfl (w.heap.size + 1) o rfl rfl 37 z HT.out.2.1 oko.out.1 szo.out oko.out.2.1 ?_))
      refine bodyPost_ret (v := .agg o) ?_ rfl ⟨o, rfl, HE.out, HF.out⟩
      exact results_cell_row Tryd.results23 _ _ (w.heap.size + 1) 37 o (0, 0) _ rfl F2.out Tryd.underlying37 rfl oko.out.1
end Go.Proofs.YtjiadbaaggifpaaDoor
end

section
set_option linter.unusedVariables false
set_option linter.unusedSimpArgs false
namespace Go.Proofs.YtjiadbaaggifpaaDoor
open Go Go.Proofs Go.RowKit F5

theorem three_new (w : World) (a b c : Array Value) (T1 T2 T3 : TypeId) : Blk (((w.alloc (.cells a T1)).alloc (.cells b T2)).alloc (.cells c T3)) w.heap.size T1 a ∧
    Blk (((w.alloc (.cells a T1)).alloc (.cells b T2)).alloc (.cells c T3)) (w.heap.size + 1) T2 b ∧
    Blk (((w.alloc (.cells a T1)).alloc (.cells b T2)).alloc (.cells c T3)) (w.heap.size + 1 + 1) T3 c ∧
    Below w.heap.size w (((w.alloc (.cells a T1)).alloc (.cells b T2)).alloc (.cells c T3)) := by
  have s1 : (w.alloc (.cells a T1)).heap.size = w.heap.size + 1 := by simp
  have s2 : ((w.alloc (.cells a T1)).alloc (.cells b T2)).heap.size = w.heap.size + 1 + 1 := by simp
  refine ⟨((Blk.new w _ a).alloc _).alloc _, ?_, ?_, (((Below.refl _ _).alloc (Nat.le_refl _) _).alloc (by simp) _).alloc (by simp; omega) _⟩
  · rw [← s1]; exact (Blk.new _ _ b).alloc _
  · rw [← s2]; exact Blk.new _ _ c

set_option maxHeartbeats 2000000 in
set_option maxRecDepth 100000 in
theorem refAddPt_any {p q : Pt} {A B : Array Value} (h1 : PtAt p A) (h2 : PtAt q B) (w : World) :
    Calls Tryd.prog 16 #[.agg A, .agg B] w fun e w' => ∃ c, e = .returned (.agg c) ∧ PtAt (padd p q) c ∧ Below w.heap.size w w' := by
  have okA := Lib.hid h1.ok
  have okB := Lib.hid h2.ok
  obtain ⟨R, hR, CP⟩ : ∃ R, PtAt (padd p q) R ∧ ∀ V, Calls Tryd.prog 44 #[.agg A, .agg B, .agg (cF dE)] V fun e w' => e = .returned (.agg R) ∧ Below V.heap.size V w' := by
    obtain ⟨X1, Y1, Z1, r1, rfl⟩ := h1
    obtain ⟨X2, Y2, Z2, r2, rfl⟩ := h2
    exact ⟨_, ⟨_, _, _, rep_add r1 r2, rfl⟩, fun V => refAdd_P X1 Y1 Z1 X2 Y2 Z2 dE _ _ _ _ _ _ _ _ _ _ _ rfl rfl rfl rfl rfl rfl rfl rfl rfl rfl rfl V⟩
  have CP := Lib.hid CP
  have HR := Lib.hid hR
  have ok := Lib.hid hR.ok
  clear hR h1 h2
  obtain ⟨z, hz⟩ : ∃ z, Hid (z = pV 0 0 0) := ⟨_, Lib.hid rfl⟩
  have hz0 : ∀ W, (zeroValue 37).run Tryd.prog W = .ok (.agg z) W := by rw [hz.out]; exact zeroP
  have zs : Hid (z.size = R.size) := Lib.hid (by rw [hz.out, pV_size, ok.out.2.2])
  have CD : Hid (∀ V, Calls Tryd.prog 45 #[] V fun e w' => e = .returned (.agg (cF dE)) ∧ Below V.heap.size V w') := Lib.hid refD_any
  generalize cF dE = dc at *
  obtain ⟨x1, x2, x3, x4⟩ := three_new w A B z 37 37 37
  clear hz
  go_enter Tryd.func16, Tryd.ntmps16
  go_upto_region 1 with fail
  generalize ((w.alloc (.cells A 37)).alloc (.cells B 37)).alloc (.cells z 37) = W at *
  have X1 := Lib.hid x1
  have X2 := Lib.hid x2
  have X3 := Lib.hid x3
  have HB := Lib.hid x4
  clear x1 x2 x3 x4
  (try simp only [Act.put, List.setIfInBounds_toArray, List.set_cons_zero, List.set_cons_succ])
  refine wp_region_held_drew (S := fun V => Far (w.heap.size + 1 + 1) W V) (by kernel_rfl) (Far.of (Below.refl _ _).drew) (fun hHeld => ?_)
  have HBW := Lib.hid ((Below.refl W.heap.size W).drew)
  generalize W.drew = VW at *
  refine' wpAnyH_take (i := 0) (oi := _) (v := .agg A) ?hit1 ?hst1 ?hft1 ?hrt1 ?hQt1 ?hyt1 ?hSt1 ?_
  case hit1 => (simp only [List.getElem?_toArray, List.getElem?_cons_succ, List.getElem?_cons_zero]; rfl)
  case hst1 => kernel_rfl
  case hft1 => kernel_rfl
  case hrt1 => kernel_rfl
  case hQt1 => exact fun _ _ _ h => h
  case hSt1 => assumption
  case hyt1 =>
    refine Or.inl ⟨by rfl, ?_⟩
    intro W hS
    exact quiet_load_row 37 (.tmp 2) _ rfl 37 A _ (hS _ _ _ (by omega) X1.out) Tryd.underlying37 rfl okA.out.1 rfl
  (try simp only [Act.put, List.setIfInBounds_toArray, List.set_cons_zero, List.set_cons_succ])
  refine' wpAnyH_take (i := 1) (oi := _) (v := .agg B) ?hit2 ?hst2 ?hft2 ?hrt2 ?hQt2 ?hyt2 ?hSt2 ?_
  case hit2 => (simp only [List.getElem?_toArray, List.getElem?_cons_succ, List.getElem?_cons_zero]; rfl)
  case hst2 => kernel_rfl
  case hft2 => kernel_rfl
  case hrt2 => kernel_rfl
  case hQt2 => exact fun _ _ _ h => h
  case hSt2 => assumption
  case hyt2 =>
    refine Or.inl ⟨by rfl, ?_⟩
    intro W hS
    exact quiet_load_row 37 (.tmp 3) _ rfl 37 B _ (hS _ _ _ (by omega) X2.out) Tryd.underlying37 rfl okB.out.1 rfl
  (try simp only [Act.put, List.setIfInBounds_toArray, List.set_cons_zero, List.set_cons_succ])
  refine wpAnyH_ready (rs := [2]) (by kernel_rfl) (by simp) ?_
  refine' (AllReadyH.cons (o := _) ?hir3_2 (fun K hK => ?br3_2) AllReadyH.nil)
  case hir3_2 => (simp only [List.getElem?_toArray, List.getElem?_cons_succ, List.getElem?_cons_zero]; rfl)
  case br3_2 =>
    go_simp
    refine (CD.out _).mono ?_
    rintro e w4 ⟨rfl, hb4⟩
    have H4 := Lib.hid (HBW.out.trans (hb4.mono HBW.out.size))
    clear hb4
    go_wp2_with fail
    refine hK.out _ _ ?_ (fun hHeld => ?_)
    exact Far.of H4.out
    clear hK K
    (try simp only [Act.put, List.setIfInBounds_toArray, List.set_cons_zero, List.set_cons_succ])
    refine wpAnyH_ready (rs := [3]) (by kernel_rfl) (by simp) ?_
    refine' (AllReadyH.cons (o := _) ?hir5_3 (fun K hK => ?br5_3) AllReadyH.nil)
    case hir5_3 => (simp only [List.getElem?_toArray, List.getElem?_cons_succ, List.getElem?_cons_zero]; rfl)
    case br5_3 =>
      go_simp
      refine (CP.out _).mono ?_
      rintro e w6 ⟨rfl, hb6⟩
      have H6 := Lib.hid (H4.out.trans (hb6.mono H4.out.size))
      clear hb6
      go_wp2_with fail
      refine hK.out _ _ ?_ (fun hHeld => ?_)
      exact Far.of H6.out
      clear hK K
      (try simp only [Act.put, List.setIfInBounds_toArray, List.set_cons_zero, List.set_cons_succ])
      refine wpAnyH_ready (rs := [4]) (by kernel_rfl) (by simp) ?_
      refine' (AllReadyH.cons (o := _) ?hir7_4 (fun K hK => ?br7_4) AllReadyH.nil)
      case hir7_4 => (simp only [List.getElem?_toArray, List.getElem?_cons_succ, List.getElem?_cons_zero]; rfl)
      case br7_4 =>
        refine step_of_wp rfl ?_
        refine wp_store_row 37 (.tmp 4) (.tmp 8) rfl (w.heap.size + 1 + 1) R rfl rfl 37 z (X3.out.old H6.out) ok.out.1 zs.out ok.out.2.1 ?_
        refine hK.out _ _ ?_ (fun hHeld => ?_)
        exact (Far.of H6.out).row _
        clear hK K
        (try simp only [Act.put, List.setIfInBounds_toArray, List.set_cons_zero, List.set_cons_succ])
        refine wpAnyH_done (by kernel_rfl) ?_ _
        have HF := Lib.hid (below_row (g := w.heap.size + 1 + 1) (HB.out.trans (H6.out.mono HB.out.size)) (by omega) R)
        have F2 := Lib.hid ((X3.out.old H6.out).row R)
        clear hHeld
        go_wp2_with fail
        refine bodyPost_ret (v := .agg R) ?_ rfl ⟨R, rfl, HR.out, HF.out⟩
        exact results_cell_row Tryd.results16 _ _ (w.heap.size + 1 + 1) 37 _ (0, 0) _ rfl F2.out Tryd.underlying37 rfl ok.out.1
end Go.Proofs.YtjiadbaaggifpaaDoor
end

section
set_option linter.unusedVariables false
set_option linter.unusedSimpArgs false
namespace Go.Proofs.YtjiadbaaggifpaaDoor
open Go Go.Proofs Go.RowKit F5
theorem fbytes_at (n i : Nat) (h : i < 32) : (fbytes n)[i]? = some (UInt8.ofNat (n / 256 ^ i % 256)) := by
  have h1 : i < (fbytes n).length := by rw [fbytes_length]; exact h
  rw [List.getElem?_eq_getElem h1]
  have h2 := fbytes_get n i h
  rw [List.getD_eq_getElem?_getD, List.getElem?_eq_getElem h1] at h2
  congr 1
  apply UInt8.toNat_inj.1
  have h3 : ((fbytes n)[i]).toNat = n / 256 ^ i % 256 := h2
  rw [h3, UInt8.toNat_ofNat']
  exact (Nat.mod_eq_of_lt (Nat.mod_lt _ (by decide))).symm
theorem fbytes_top {y : Nat} (hy : y < 2 ^ 255) (b : UInt8) (hb : b.toNat = y / 256 ^ 31 % 256 + 128) : (fbytes y).set 31 b = fbytes (y + 2 ^ 255) := by
  apply List.ext_getElem?
  intro i
  by_cases hi : i < 32
  · rw [List.getElem?_set]
    split
    · rename_i h31
      subst h31
      rw [if_pos (by rw [fbytes_length]; omega), fbytes_at _ _ (by omega)]
      congr 1
      apply UInt8.toNat_inj.1
      rw [hb, UInt8.toNat_ofNat']
      have e1 : (256 : Nat) ^ 31 = 2 ^ 248 := by decide
      rw [e1]
      omega
    · rename_i h31
      rw [fbytes_at _ _ hi, fbytes_at _ _ hi]
      congr 2
      have hi2 : i < 31 := by omega
      have e1 : 2 ^ 255 = 256 ^ i * (256 * 2 ^ (247 - 8 * i)) := by
        rw [show (256 : Nat) ^ i = 2 ^ (8 * i) by rw [show 256 = 2 ^ 8 from rfl, ← Nat.pow_mul], show (256 : Nat) = 2 ^ 8 from rfl, ← Nat.pow_add, ← Nat.pow_add]
        congr 1; omega
      rw [e1, Nat.add_mul_div_left _ _ (Nat.pow_pos (by decide)), Nat.add_mul_mod_self_left]
  · rw [List.getElem?_eq_none (by rw [List.length_set, fbytes_length]; omega), List.getElem?_eq_none (by rw [fbytes_length]; omega)]
theorem byteCells_set (l : List UInt8) (k : Nat) (b : UInt8) : (Lib.byteCells l).set k (.int .u8 (b.toNat : Int)) = Lib.byteCells (l.set k b) := by
  simp [Lib.byteCells, List.map_set]
theorem enc_odd {p : Pt} (h : p.x.val % 2 = 1) : enc p = p.y.val + 2 ^ 255 := by unfold enc; rw [h, Nat.mul_one]
theorem enc_even {p : Pt} (h : p.x.val % 2 = 0) : enc p = p.y.val := by unfold enc; rw [h, Nat.mul_zero, Nat.add_zero]

theorem own_mono2 {w : World} {base base' n : Nat} {e : TypeId} {v : Value} {xs : List Value} (h : w.ownsRow base e 1 v n xs) (hb : base' ≤ base) : w.ownsRow base' e 1 v n xs := by
  refine ⟨h.1, ?_⟩
  rcases h.2 with h' | ⟨g, cap, cur, e1, e2, rest⟩
  · exact .inl h'
  · exact .inr ⟨g, cap, cur, e1, by omega, rest⟩
theorem own_keep2 {w w' : World} {base n : Nat} {e : TypeId} {v : Value} {xs : List Value} (h : w.ownsRow base e 1 v n xs) (hb : Below w.heap.size w w') : w'.ownsRow base e 1 v n xs := by
  refine ⟨h.1, ?_⟩
  rcases h.2 with h' | ⟨g, cap, cur, e1, e2, e3, rest⟩
  · exact .inl h'
  · refine .inr ⟨g, cap, cur, e1, e2, (hb.block g ?_).trans e3, rest⟩
    rcases Nat.lt_or_ge g w.heap.size with hl | hl
    · exact hl
    · rw [Array.getElem?_eq_none hl] at e3; cases e3
theorem cF_zero_cell (a : Fp) : ∃ y : Nat, (cF a)[0]? = some (.int .u64 (y : Int)) ∧ y % 2 = a.val % 2 ∧ y < 65536 := by
  refine ⟨(digs B a.val 16).getD 0 0, u64s_get _ _ (by rw [digs_length]; omega), ?_, ?_⟩
  · rw [digs_at (by omega), Nat.pow_zero, Nat.div_one]; unfold B; omega
  · rw [digs_at (by omega)]; exact Nat.mod_lt _ (by decide)

set_option maxHeartbeats 2000000 in
set_option maxRecDepth 100000 in
theorem refPtBytes_any {p : Pt} {A : Array Value} (hA : PtAt p A) (w : World) :
    Calls Tryd.prog 41 #[.agg A] w fun e w' => ∃ s, e = .returned s ∧ w'.ownsRow w.heap.size 5 1 s 32 (Lib.byteCells (fbytes (enc p))) ∧ Below w.heap.size w w' := by
  obtain ⟨X, Y, Z, hrep, rfl⟩ := hA
  obtain ⟨hx, hy⟩ := rep_x hrep
  have CI := Lib.hid (rInv Z)
  generalize finv Z = Zi at *
  have CX : Hid (∀ V, Calls Tryd.prog 49 #[.agg (cF X), .agg (cF Zi)] V fun e w' => e = .returned (.agg (cF p.x)) ∧ Below V.heap.size V w') := Lib.hid fun V => by rw [← hx]; exact rMul _ _ V
  have CY : Hid (∀ V, Calls Tryd.prog 49 #[.agg (cF Y), .agg (cF Zi)] V fun e w' => e = .returned (.agg (cF p.y)) ∧ Below V.heap.size V w') := Lib.hid fun V => by rw [← hy]; exact rMul _ _ V
  have CB : Hid (∀ V, Calls Tryd.prog 66 #[.agg (cF p.y)] V (BytesEnd p.y.val V)) := Lib.hid fun V => refBytes_any p.y.val V
  have KX := Lib.hid (fun (V : World) g T (h : Blk V g T (pV X Y Z)) => pV_x h)
  have KY := Lib.hid (fun (V : World) g T (h : Blk V g T (pV X Y Z)) => pV_y h)
  have KZ := Lib.hid (fun (V : World) g T (h : Blk V g T (pV X Y Z)) => pV_z h)
  generalize pV X Y Z = A at *
  clear hrep hx hy
  obtain ⟨zf, hzf⟩ : ∃ z, Hid (z = cF 0) := ⟨_, Lib.hid rfl⟩
  have hzf0 : ∀ W, (zeroValue 35).run Tryd.prog W = .ok (.agg zf) W := by rw [hzf.out]; exact zeroF
  have szi : Hid (zf.size = (cF Zi).size) := Lib.hid (by rw [hzf.out]; exact cF_sz _ _)
  have X1 := Lib.hid (Blk.new w 37 A)
  have HB := Lib.hid ((Below.refl w.heap.size w).alloc (Nat.le_refl _) (.cells A 37))
  obtain ⟨y0, hy0, hy2, hyl⟩ := cF_zero_cell p.x
  have hix : ∀ W, (Instr.index 35 (.agg (cF p.x)) (.int .i64 0)).run Tryd.prog W = .ok (.int .u64 (y0 : Int)) W := run_index_one (P := Tryd.prog) Tryd.underlying35 Tryd.isAgg24 Tryd.sizeOf24 (cF p.x) 0 _ (by omega) hy0
  have HY2 := Lib.hid hy2
  clear hzf hy0 hy2
  go_enter Tryd.func41, Tryd.ntmps41
  go_upto_region 1 with fail
  generalize w.alloc (.cells A 37) = W at *
  go_upto_region 2 with (first | (refine wpList_load_at rfl 35 (.tmp 5) rfl w.heap.size 32 rfl 24 16 (cF Z) Tryd.underlying35 (cF_ok _).1 (KZ.out _ _ _ X1.out) ?_))
  refine (CI.out _).mono ?_
  rintro e w1 ⟨rfl, hb⟩
  have X1 := Lib.hid ((X1.out.old hb).alloc (.cells (cF Zi) 35))
  have HB := Lib.hid ((HB.out.trans (hb.mono HB.out.size)).alloc (HB.out.trans (hb.mono HB.out.size)).size (.cells (cF Zi) 35))
  have X3 := Lib.hid (Blk.new w1 35 (cF Zi))
  clear hb
  go_upto_region 2 with (first | (refine wpList_store_row rfl 35 (.tmp 3) (.tmp 7) rfl w1.heap.size (cF Zi) rfl rfl 35 _ (heap_alloc_new w1 _) (cF_ok _).1 szi.out (cF_ok _).2 ?_; rw [setRow_alloc1]))
  generalize w1.alloc (.cells (cF Zi) 35) = W1 at *
  generalize w1.heap.size = g3 at *
  go_upto_region 3 with (first | (refine wpList_load_at rfl 35 (.tmp 8) rfl w.heap.size 16 rfl 24 16 (cF Y) Tryd.underlying35 (cF_ok _).1 (KY.out _ _ _ X1.out) ?_) |
    (refine wpList_load_row rfl 35 (.tmp 3) rfl g3 rfl 35 (cF Zi) (0, 0) _ X3.out Tryd.underlying35 rfl (cF_ok _).1 ?_))
  refine (CY.out _).mono ?_
  rintro e w2 ⟨rfl, hb⟩
  have X1 := Lib.hid (X1.out.old hb)
  have X3 := Lib.hid (X3.out.old hb)
  have HB := Lib.hid (HB.out.trans (hb.mono HB.out.size))
  clear hb
  go_upto_region 3 with fail
  refine (CB.out _).mono ?_
  rintro e w3 ⟨s, rfl, hown, hb⟩
  have X1 := Lib.hid (X1.out.old hb)
  have X3 := Lib.hid (X3.out.old hb)
  have HW2 := Lib.hid HB.out.size
  have HB := Lib.hid (HB.out.trans (hb.mono HB.out.size))
  clear hb
  obtain ⟨g, cap, hs, hgb, hgl⟩ := hown.form (by omega)
  subst hs
  have hown := own_mono2 hown (Nat.le_trans HW2.out (Nat.le_succ _))
  have HO := Lib.hid hown
  clear hown
  go_upto_region 3 with fail
  go_wp2_with (first | (refine wpList_load_at rfl 35 (.tmp 13) rfl w.heap.size 0 rfl 24 16 (cF X) Tryd.underlying35 (cF_ok _).1 (KX.out _ _ _ X1.out) ?_) |
    (refine wpList_load_row rfl 35 (.tmp 3) rfl g3 rfl 35 (cF Zi) (0, 0) _ X3.out Tryd.underlying35 rfl (cF_ok _).1 ?_))
  refine (CX.out _).mono ?_
  rintro e w4 ⟨rfl, hb⟩
  have hown := own_keep2 HO.out hb
  have HB := Lib.hid (HB.out.trans (hb.mono HB.out.size))
  clear hb X1 X3 HO
  have hcell := hown.cellAt 31 (by omega)
  have hfz := hown.frozenAt 31
  obtain ⟨x, hxx⟩ := named (p.y.val / 256 ^ 31 % 256)
  rw [show (Lib.byteCells (fbytes p.y.val))[31]? = some (.int .u8 (x : Int)) by
    have h1 := fbytes_at p.y.val 31 (by omega)
    rw [hxx.out]
    simp [Lib.byteCells, h1]] at hcell
  have hx128 : x < 128 := by
    have h1 := p.y.isLt
    have h2 := P_255
    have e1 : (256 : Nat) ^ 31 = 2 ^ 248 := by decide
    rw [hxx.out, e1]
    omega
  have hgw : w.heap.size ≤ g := Nat.le_trans HW2.out (Nat.le_of_succ_le hgb)
  obtain ⟨nx, hnx⟩ := named (x + 128)
  have cw : IntKind.u8.wrap ((x : Int) + 128) = (nx : Int) := by rw [IntKind.wrap_u8', hnx.out]; omega
  obtain ⟨b, hb⟩ := named (y0 % 2)
  have e1' : (y0 : Int) % 2 = (b : Int) := by rw [hb.out]; omega
  have e2' : (y0 : Int).tmod 2 = (b : Int) := by rw [Int.tmod_eq_emod_of_nonneg (by omega)]; omega
  have e3' : IntKind.u64.wrap (b : Int) = (b : Int) := by rw [IntKind.wrap_u64, hb.out]; omega
  have hbit : Hid (p.x.val % 2 = b) := Lib.hid (by rw [hb.out, HY2.out])
  have hb01 : b = 0 ∨ b = 1 := by rw [hb.out]; omega
  have HO := Lib.hid hown
  clear hown
  rcases hb01 with hb0 | hb0
  · have E : Hid (enc p = p.y.val) := Lib.hid (enc_even (by rw [hbit.out, hb0]))
    clear hbit hb
    subst hb0
    go_wp2_with fail
    go_ret
    exact ⟨_, rfl, by rw [E.out]; exact HO.out, HB.out⟩
  · have E : Hid (fbytes (enc p) = (fbytes p.y.val).set 31 (UInt8.ofNat nx)) := Lib.hid (by
      rw [enc_odd (by rw [hbit.out, hb0])]
      refine (fbytes_top (Nat.lt_trans p.y.isLt P_255) _ ?_).symm
      rw [UInt8.toNat_ofNat', hnx.out, hxx.out]
      have := hx128
      rw [hxx.out] at this
      omega)
    have hst := (HO.out.stored 31 (.int .u8 (nx : Int))).1
    have hbl : Below w.heap.size w (w4.setCell ⟨g, 31, none⟩ (.int .u8 (nx : Int))) := HB.out.setCell hgw _
    have HS : Hid ((w4.setCell ⟨g, 31, none⟩ (.int .u8 (nx : Int))).ownsRow w.heap.size 5 1 (.slice (some ⟨g, 0, none⟩) 32 cap) 32 (Lib.byteCells (fbytes (enc p)))) := Lib.hid (by
      rw [E.out, ← byteCells_set]
      have hn : (UInt8.ofNat nx).toNat = nx := by rw [UInt8.toNat_ofNat', hnx.out]; omega
      rw [hn]; exact hst)
    have HL := Lib.hid hbl
    clear hbit hb hst hbl
    subst hb0
    go_wp2_with fail
    go_ret
    exact ⟨_, rfl, HS.out, HL.out⟩
end Go.Proofs.YtjiadbaaggifpaaDoor
end

section
set_option linter.unusedVariables false
set_option linter.unusedSimpArgs false
namespace Go.Proofs.YtjiadbaaggifpaaDoor
open Go Go.Proofs Go.RowKit F5

theorem fbytes_cut {v : Nat} (hv : v < 2 ^ 256) (b : UInt8) (hb : b.toNat = v / 256 ^ 31 % 256 % 128) : (fbytes v).set 31 b = fbytes (v % 2 ^ 255) := by
  apply List.ext_getElem?
  intro i
  by_cases hi : i < 32
  · rw [List.getElem?_set]
    split
    · rename_i h31
      subst h31
      rw [if_pos (by rw [fbytes_length]; omega), fbytes_at _ _ (by omega)]
      congr 1
      apply UInt8.toNat_inj.1
      rw [hb, UInt8.toNat_ofNat']
      have e1 : (256 : Nat) ^ 31 = 2 ^ 248 := by decide
      rw [e1]
      omega
    · rename_i h31
      rw [fbytes_at _ _ hi, fbytes_at _ _ hi]
      congr 2
      have hi2 : i < 31 := by omega
      have e1 : 2 ^ 255 = 256 ^ i * (256 * 2 ^ (247 - 8 * i)) := by
        rw [show (256 : Nat) ^ i = 2 ^ (8 * i) by rw [show 256 = 2 ^ 8 from rfl, ← Nat.pow_mul], show (256 : Nat) = 2 ^ 8 from rfl, ← Nat.pow_add, ← Nat.pow_add]
        congr 1; omega
      rw [e1, Nat.mod_mul_right_div_self, Nat.mod_mul_right_mod]
  · rw [List.getElem?_eq_none (by rw [List.length_set, fbytes_length]; omega), List.getElem?_eq_none (by rw [fbytes_length]; omega)]
theorem wpList_quietG {P : Program} {ops : Array Oper} {rest : List Oper} {o : Oper} {a : Act} {w : World} {Q : Exit → Act → World → Prop} (hw : Region.wanted o (yielded ops a.tmps) = true) (v : Value)
    (hrun : (execOp a.eval o).run P w = .ok (.value v) w) (h : wpList P ops Q rest (a.put o.dst v) w) : wpList P ops Q (o :: rest) a w := by
  simp only [wpList, hw, if_true]
  refine .inl ?_
  unfold Oper.wp
  simp only [hrun]
  exact h
def PShape (c : Array Value) : Prop := (Tryd.prog.info? 37).map (·.size) = some c.size ∧ c.all (·.oneCell') = true ∧ c.size = 48
theorem built_nilF : Tryd.prog.built 35 [] = some (cF 0) := by
  have : Tryd.prog.built 35 [] = some (u64s (List.replicate 16 0)) := by kernel_rfl
  rw [this, zero16]; rfl
theorem quiet_eql_F {o : Oper} {ev : Operand → Value} (w : World) (x y : Operand) (k : TypeId) (l l' : List Nat) (hl : l.length = 16) (hl' : l'.length = 16) (hx : ev x = .agg (u64s l)) (hy : ev y = .agg (u64s l'))
    (ho : o.op = .binOp .eql 35 x y k) : (execOp ev o).run Tryd.prog w = .ok (.value (.bool (decide (l = l')))) w := by
  have hg : (eqGuard .eql 35 x y (.agg (u64s l)) (.agg (u64s l'))).run Tryd.prog w = .ok () w := run_eqGuard_agg w .eql _ x y _ _ (by kernel_rfl)
  unfold execOp
  simp only [ho, hx, hy, Sem.run_bind, hg, Result.andThen_ok, run_eql_u64s (i := default) Tryd.underlying35 l l' hl hl' w, Sem.run_pure]
theorem cF_inj {a b : Fp} : digs B a.val 16 = digs B b.val 16 ↔ a = b := by
  rw [digs_eq (fp_256 a) (fp_256 b)]
  exact ⟨fp_ext, fun h => by rw [h]⟩

set_option maxHeartbeats 2000000 in
set_option maxRecDepth 100000 in
theorem refGet_any (v : Nat) (hv : v < 2 ^ 256) (ad : Addr) (c Bd : Nat) (w : World) (hr : Reads w Bd 1 (some ad) 32 (Lib.byteCells (fbytes v))) (hBw : Bd ≤ w.heap.size) :
    Calls Tryd.prog 11 #[.slice (some ad) 32 c] w fun e w' => ∃ C, e = .returned (.tuple #[.agg C, .bool (decide (okP v))]) ∧ (∀ h : okP v, PtAt (pget v h) C) ∧ PShape C ∧ Below w.heap.size w w' := by
  obtain ⟨z, hz⟩ : ∃ z, Hid (z = pV 0 0 0) := ⟨_, Lib.hid rfl⟩
  have hz0 : ∀ W, (zeroValue 37).run Tryd.prog W = .ok (.agg z) W := by rw [hz.out]; exact zeroP
  obtain ⟨zf, hzf⟩ : ∃ z, Hid (z = cF 0) := ⟨_, Lib.hid rfl⟩
  have hzf0 : ∀ W, (zeroValue 35).run Tryd.prog W = .ok (.agg zf) W := by rw [hzf.out]; exact zeroF
  have zs : Hid (z.size = 48) := Lib.hid (by rw [hz.out]; exact pV_size _ _ _)
  have of : Hid (∀ a : Fp, zf.size = (cF a).size) := Lib.hid (fun a => by rw [hzf.out]; exact cF_sz _ _)
  have HBN : Hid (Tryd.prog.built 37 [] = some z) := by rw [hz.out]; exact Lib.hid built_nilP
  have okz : Hid ((Tryd.prog.info? 37).map (·.size) = some z.size ∧ z.all (·.oneCell') = true) := by rw [hz.out]; exact Lib.hid ⟨pV_info _ _ _, pV_one _ _ _⟩
  clear hz hzf
  obtain ⟨i0, hi, hi0, hi1, hi2⟩ := info_parts infoByte
  obtain ⟨x, hxx⟩ := named (v / 256 ^ 31 % 256)
  have HV := Lib.hid hv
  have hx256 : x < 256 := by rw [hxx.out]; exact Nat.mod_lt _ (by decide)
  obtain ⟨r, hrr⟩ := named (x % 128)
  have e1' : (x : Int) % 128 = (r : Int) := by rw [hrr.out]; omega
  have e2' : (x : Int).tmod 128 = (r : Int) := by rw [Int.tmod_eq_emod_of_nonneg (by omega)]; omega
  have hr128 : r < 128 := by rw [hrr.out]; omega
  have e3' : IntKind.u8.wrap (r : Int) = (r : Int) := by rw [IntKind.wrap_u8']; omega
  obtain ⟨bo, hbo⟩ : ∃ b, Hid (b = decide (2 ^ 255 ≤ v)) := ⟨_, Lib.hid rfl⟩
  have hge : decide ((128 : Int) ≤ (x : Int)) = bo := by
    rw [hbo.out]
    have e1 : (256 : Nat) ^ 31 = 2 ^ 248 := by decide
    have hx2 := hxx.out
    rw [e1] at hx2
    exact decide_eq_decide.2 (by omega)
  have hcut : Hid ((fbytes v).set 31 (UInt8.ofNat r) = fbytes (v % 2 ^ 255)) := Lib.hid (fbytes_cut hv _ (by rw [UInt8.toNat_ofNat', hrr.out, hxx.out]; omega))
  have hrn : Hid ((UInt8.ofNat r).toNat = r) := Lib.hid (by rw [UInt8.toNat_ofNat']; omega)
  have hfx : (Lib.byteCells (fbytes v))[31]? = some (.int .u8 (x : Int)) := by
    have h1 := fbytes_at v 31 (by omega)
    rw [hxx.out]
    simp [Lib.byteCells, h1]
  have HFX := Lib.hid hfx
  have hr0 := hr.alloc hBw (.cells z 37)
  have X0 := Lib.hid (Blk.new w 37 z)
  have hB0 : Below w.heap.size w (w.alloc (.cells z 37)) := (Below.refl w.heap.size w).alloc (Nat.le_refl _) _
  clear hv hfx hr
  go_enter Tryd.func11, Tryd.ntmps11
  go_upto_region 1 with fail
  generalize w.alloc (.cells z 37) = W at *
  have hwW := X0.out.lt
  have hBW : Bd ≤ W.heap.size := Nat.le_trans hBw hB0.size
  have hoe := owns_empty W
  have hr1 := hr0.alloc hBW (.cells #[] 5)
  have hbe : Below W.heap.size W (W.alloc (.cells #[] 5)) := (Below.refl _ _).alloc (Nat.le_refl _) _
  go_upto_region 2 with (at_builtin; refine wpList_append_any _ rfl (.tmp 10) (.tmp 11) 22 rfl W.heap.size 5 i0 (.int .u8 0) 1 1 Tryd.underlying22 hi hi0 hi1 hi2 rfl (by decide) _ 0 [] rfl hoe Bd (some ad) 32 c (Lib.byteCells (fbytes v)) rfl hr1 (Lib.byteCells_one _) (by unfold maxLen; omega) (by omega) (by simp) ?_)
  intro v1 w1 ho1 hg1 _
  have hb1 : Below W.heap.size W w1 := hbe.grown hg1 (by simp) (fun k hk => (hoe.lt k hk).1)
  obtain ⟨g, cap, hs, hgb, hgl⟩ := ho1.form (by omega)
  subst hs
  have X0 := Lib.hid (X0.out.old hb1)
  have hgne : w.heap.size ≠ g := Nat.ne_of_lt (Nat.lt_of_lt_of_le hwW hgb)
  have HB1 := Lib.hid (hB0.trans (hb1.mono hB0.size))
  have HO := Lib.hid ho1
  have hcell := (ho1.cellAt 31 (by omega)).trans HFX.out
  have hfz := ho1.frozenAt 31
  clear hoe hr0 hr1 hbe hg1 ho1 hb1 hB0
  have hst := (HO.out.stored 31 (.int .u8 (r : Int))).1
  have e31 : (Lib.byteCells (fbytes v)).set 31 (.int .u8 (r : Int)) = Lib.byteCells (fbytes (v % 2 ^ 255)) := by
    rw [← hcut.out, ← byteCells_set, hrn.out]
  rw [e31] at hst
  have HS := Lib.hid hst
  have X2 := Lib.hid (X0.out.far (p := ⟨g, 31, none⟩) hgne (.int .u8 (r : Int)))
  have HB2 := Lib.hid (HB1.out.setCell (p := ⟨g, 31, none⟩) (Nat.le_of_lt (Nat.lt_of_lt_of_le hwW hgb)) (.int .u8 (r : Int)))
  clear hst e31 HO HB1 X0
  go_upto_region 4 with fail
  generalize w1.setCell ⟨g, 31, none⟩ (.int .u8 (r : Int)) = W2 at *
  clear hcell hfz
  obtain ⟨y, hy⟩ : ∃ y, Hid (y = gy v) := ⟨_, Lib.hid rfl⟩
  obtain ⟨b1, hb1⟩ : ∃ b, Hid (b = decide (v % 2 ^ 255 < P)) := ⟨_, Lib.hid rfl⟩
  have CRaw : Hid (Calls Tryd.prog 33 #[.slice (some ⟨g, 0, none⟩) 32 cap] W2 fun e w' => e = .returned (.tuple #[.agg (cF y), .bool b1]) ∧ Below W2.heap.size W2 w') := Lib.hid (by
    rw [hy.out, hb1.out]
    exact raw_any (v % 2 ^ 255) (by omega) ⟨g, 0, none⟩ cap W2 (Reads.of_own HS.out))
  obtain ⟨x0, hx0⟩ : ∃ y, Hid (y = rootF (xsq (gy v))) := ⟨_, Lib.hid rfl⟩
  obtain ⟨b2, hb2⟩ : ∃ b, Hid (b = decide (hasRoot (xsq (gy v)).val)) := ⟨_, Lib.hid rfl⟩
  have CX : Hid (∀ V, Calls Tryd.prog 34 #[.agg (cF y)] V fun e w' => e = .returned (.tuple #[.agg (cF x0), .bool b2]) ∧ Below V.heap.size V w') := Lib.hid fun V => by
    rw [hx0.out, hb2.out, hy.out]; exact refXof_any _ V
  obtain ⟨b0, hb0⟩ : ∃ b, Hid (b = decide (x0 = 0)) := ⟨_, Lib.hid rfl⟩
  have hd0 : Hid (decide (digs B x0.val 16 = digs B (0 : Fp).val 16) = b0) := Lib.hid (by rw [hb0.out]; exact decide_eq_decide.2 cF_inj)
  have hokv : Hid (decide (okP v) = (b1 && b2 && !(bo && b0))) := Lib.hid (by
    rw [hb1.out, hb2.out, hbo.out, hb0.out, hx0.out, Bool.eq_iff_iff]
    simp only [decide_eq_true_iff, Bool.and_eq_true, Bool.not_eq_true', Bool.and_eq_false_iff, decide_eq_false_iff_not]
    unfold okP gr
    constructor
    · rintro ⟨h1, h2, h3⟩; exact ⟨⟨h1, h2⟩, Decidable.not_and_iff_or_not.1 h3⟩
    · rintro ⟨⟨h1, h2⟩, h3⟩; exact ⟨h1, h2, Decidable.not_and_iff_or_not.2 h3⟩)
  have hgx : Hid (gx v = if bo = true then 0 - x0 else x0) := Lib.hid (by
    rw [hbo.out, hx0.out]
    unfold gx gr
    simp only [decide_eq_true_iff])
  have hgy : Hid (gy v = y) := Lib.hid hy.out.symm
  clear hy hb1 hx0 hb2 hb0 hbo
  go_upto_region 5 with fail
  refine (CRaw.out).mono ?_
  rintro e w3 ⟨rfl, hb⟩
  have X2 := Lib.hid ((X2.out.old hb).alloc (.cells (cF y) 35))
  have HB2 := Lib.hid ((HB2.out.trans (hb.mono HB2.out.size)).alloc (HB2.out.trans (hb.mono HB2.out.size)).size (.cells (cF y) 35))
  have X6 := Lib.hid (Blk.new w3 35 (cF y))
  clear hb CRaw HS
  go_upto_region 5 with (first | (refine wpList_store_row rfl 35 (.tmp 6) (.tmp 26) rfl w3.heap.size (cF y) rfl rfl 35 _ (heap_alloc_new w3 _) (cF_ok _).1 (of.out _) (cF_ok _).2 ?_; rw [setRow_alloc1]))
  generalize w3.alloc (.cells (cF y) 35) = W3 at *
  generalize w3.heap.size = g6 at *
  have DEAD : Hid (decide (okP v) = false → ∀ V, Blk V w.heap.size 37 z → Below w.heap.size w V → ∃ C, Value.tuple #[.agg z, .bool false] = Value.tuple #[.agg C, .bool (decide (okP v))] ∧ (∀ h : okP v, PtAt (pget v h) C) ∧ PShape C ∧ Below w.heap.size w V) := Lib.hid fun h V _ hV => ⟨z, by rw [h], fun h2 => absurd h2 (by simpa using h), ⟨okz.out.1, okz.out.2, zs.out⟩, hV⟩
  cases hb1v : b1
  · have ho : decide (okP v) = false := by rw [hokv.out, hb1v]; rfl
    have XF := Lib.hid (X2.out.row z)
    have HF := Lib.hid (below_row HB2.out (Nat.le_refl _) z)
    clear hb1v
    go_wp2_with (first | (refine wpList_build_to rfl 37 #[] rfl [] (by simp [Act.eval]) z HBN.out ?_) | (refine wpList_store_row rfl 37 (.tmp 2) (.tmp 30) rfl w.heap.size z rfl rfl 37 z X2.out okz.out.1 rfl okz.out.2 ?_))
    obtain ⟨C, hC1, hC2, hC3⟩ := DEAD.out ho _ XF.out HF.out
    refine bodyPost_ret (v := .tuple #[.agg z, .bool false]) ?_ rfl ⟨C, by rw [hC1], hC2, hC3⟩
    exact results_row_tmp1 Tryd.results11 _ _ w.heap.size 37 _ _ _ rfl rfl XF.out Tryd.underlying37 okz.out.1
  have HK : Hid (decide (okP v) = (b2 && !(bo && b0))) := Lib.hid (by rw [hokv.out, hb1v, Bool.true_and])
  clear hb1v hokv
  go_upto_region 8 with (first | (refine wpList_load_row rfl 35 (.tmp 6) rfl g6 rfl 35 (cF y) (0, 0) _ X6.out Tryd.underlying35 rfl (cF_ok _).1 ?_))
  refine (CX.out _).mono ?_
  rintro e w4 ⟨rfl, hb⟩
  have N68 := Lib.hid (Nat.ne_of_lt (Nat.lt_of_lt_of_le X6.out.lt hb.size))
  have L8 := Lib.hid (Nat.le_trans HB2.out.size hb.size)
  have X2 := Lib.hid ((X2.out.old hb).alloc (.cells (cF x0) 35))
  have X6 := Lib.hid ((X6.out.old hb).alloc (.cells (cF x0) 35))
  have HB2 := Lib.hid ((HB2.out.trans (hb.mono HB2.out.size)).alloc (HB2.out.trans (hb.mono HB2.out.size)).size (.cells (cF x0) 35))
  have X8 := Lib.hid (Blk.new w4 35 (cF x0))
  clear hb CX
  go_upto_region 8 with (first | (refine wpList_store_row rfl 35 (.tmp 8) (.tmp 34) rfl w4.heap.size (cF x0) rfl rfl 35 _ (heap_alloc_new w4 _) (cF_ok _).1 (of.out _) (cF_ok _).2 ?_; rw [setRow_alloc1]))
  generalize w4.alloc (.cells (cF x0) 35) = W4 at *
  generalize w4.heap.size = g8 at *
  (try simp only [Act.put, List.setIfInBounds_toArray, List.set_cons_zero, List.set_cons_succ])
  cases hb2v : b2
  · have ho : decide (okP v) = false := by rw [HK.out, hb2v]; rfl
    have XF := Lib.hid (X2.out.row z)
    have HF := Lib.hid (below_row HB2.out (Nat.le_refl _) z)
    clear hb2v
    go_wp2_with (first | (refine wpList_build_to rfl 37 #[] rfl [] (by simp [Act.eval]) z HBN.out ?_) | (refine wpList_store_row rfl 37 (.tmp 2) (.tmp 46) rfl w.heap.size z rfl rfl 37 z X2.out okz.out.1 rfl okz.out.2 ?_))
    obtain ⟨C, hC1, hC2, hC3⟩ := DEAD.out ho _ XF.out HF.out
    refine bodyPost_ret (v := .tuple #[.agg z, .bool false]) ?_ rfl ⟨C, by rw [hC1], hC2, hC3⟩
    exact results_row_tmp1 Tryd.results11 _ _ w.heap.size 37 _ _ _ rfl rfl XF.out Tryd.underlying37 okz.out.1
  have HK2 : Hid (decide (okP v) = !(bo && b0)) := Lib.hid (by rw [HK.out, hb2v, Bool.true_and])
  clear hb2v HK
  have N6 : Hid (g6 ≠ w.heap.size) := Lib.hid (by rintro rfl; exact absurd (X2.out.ne_ X6.out (by decide)) (by simp))
  have N8 : Hid (g8 ≠ w.heap.size) := Lib.hid (by rintro rfl; exact absurd (X2.out.ne_ X8.out (by decide)) (by simp))
  obtain ⟨one, h1⟩ : ∃ a : Fp, Hid (a = 1) := ⟨_, Lib.hid rfl⟩
  have C1 : Hid (∀ V, Calls Tryd.prog 36 #[.int .u64 1] V fun e w' => e = .returned (.agg (cF one)) ∧ Below V.heap.size V w') := Lib.hid fun V => rOf 1 (by decide) one (by rw [h1.out]; exact fv _ _ (by decide)) _ rfl V
  have hBu := Lib.hid (fun xv : Fp => built_P xv y one)
  have okR : Hid (∀ xv : Fp, (Tryd.prog.info? 37).map (·.size) = some (pV xv y one).size ∧ (pV xv y one).all (·.oneCell') = true ∧ z.size = (pV xv y one).size) := Lib.hid fun xv => ⟨pV_info _ _ _, pV_one _ _ _, by rw [zs.out, pV_size]⟩
  have PTA : Hid (∀ xv : Fp, gx v = xv → ∀ h : okP v, PtAt (pget v h) (pV xv y one)) := Lib.hid fun xv hx h => ⟨gx v, gy v, 1, rep_one (pget v h), by rw [← hx, ← hgy.out, h1.out]⟩
  obtain ⟨pvf, hpv⟩ : ∃ f : Fp → Array Value, Hid (∀ a, pV a y one = f a) := ⟨_, Lib.hid fun _ => rfl⟩
  simp only [hpv.out] at hBu okR PTA
  clear h1 hpv
  cases hbov : bo
  · have ho : decide (okP v) = true := by rw [HK2.out, hbov]; rfl
    have hxv : Hid (gx v = x0) := Lib.hid (by rw [hgx.out, hbov]; rfl)
    have HO := Lib.hid ho
    clear hbov ho
    go_upto_region 12 with fail
    (try simp only [Act.put, List.setIfInBounds_toArray, List.set_cons_zero, List.set_cons_succ])
    have XV := X8
    refine wp_region_held_drew (S := fun V => Far w.heap.size W4 V) (by kernel_rfl) (Far.of (Below.refl _ _).drew) (fun hHeld => ?_)
    have HBW4 := Lib.hid ((Below.refl W4.heap.size W4).drew)
    generalize W4.drew = VW4 at *
    refine' wpAnyH_take (i := 0) (oi := _) (v := .agg (cF x0)) ?hit1 ?hst1 ?hft1 ?hrt1 ?hQt1 ?hyt1 ?hSt1 ?_
    case hit1 => (simp only [List.getElem?_toArray, List.getElem?_cons_succ, List.getElem?_cons_zero]; rfl)
    case hst1 => kernel_rfl
    case hft1 => kernel_rfl
    case hrt1 => kernel_rfl
    case hQt1 => exact fun _ _ _ h => h
    case hSt1 => assumption
    case hyt1 =>
      refine Or.inl ⟨by rfl, ?_⟩
      intro W hS
      exact quiet_load_row 35 (.tmp 8) _ rfl 35 (cF x0) _ (hS _ _ _ (by have := N6.out; have := N8.out; omega) XV.out) Tryd.underlying35 rfl (cF_ok _).1 rfl
    (try simp only [Act.put, List.setIfInBounds_toArray, List.set_cons_zero, List.set_cons_succ])
    refine' wpAnyH_take (i := 1) (oi := _) (v := .agg (cF y)) ?hit2 ?hst2 ?hft2 ?hrt2 ?hQt2 ?hyt2 ?hSt2 ?_
    case hit2 => (simp only [List.getElem?_toArray, List.getElem?_cons_succ, List.getElem?_cons_zero]; rfl)
    case hst2 => kernel_rfl
    case hft2 => kernel_rfl
    case hrt2 => kernel_rfl
    case hQt2 => exact fun _ _ _ h => h
    case hSt2 => assumption
    case hyt2 =>
      refine Or.inl ⟨by rfl, ?_⟩
      intro W hS
      exact quiet_load_row 35 (.tmp 6) _ rfl 35 (cF y) _ (hS _ _ _ (by have := N6.out; have := N8.out; omega) X6.out) Tryd.underlying35 rfl (cF_ok _).1 rfl
    (try simp only [Act.put, List.setIfInBounds_toArray, List.set_cons_zero, List.set_cons_succ])
    refine wpAnyH_ready (rs := [2]) (by kernel_rfl) (by simp) ?_
    refine' (AllReadyH.cons (o := _) ?hir3_2 (fun K hK => ?br3_2) AllReadyH.nil)
    case hir3_2 => (simp only [List.getElem?_toArray, List.getElem?_cons_succ, List.getElem?_cons_zero]; rfl)
    case br3_2 =>
      go_simp
      refine (C1.out _).mono ?_
      rintro e w4 ⟨rfl, hb4⟩
      have H4 := Lib.hid (HBW4.out.trans (hb4.mono HBW4.out.size))
      clear hb4
      go_wp2_with fail
      refine hK.out _ _ ?_ (fun hHeld => ?_)
      exact Far.of H4.out
      clear hK K
      (try simp only [Act.put, List.setIfInBounds_toArray, List.set_cons_zero, List.set_cons_succ])
      refine' wpAnyH_take (i := 3) (oi := _) (v := .agg (pvf x0)) ?hit5 ?hst5 ?hft5 ?hrt5 ?hQt5 ?hyt5 ?hSt5 ?_
      case hit5 => (simp only [List.getElem?_toArray, List.getElem?_cons_succ, List.getElem?_cons_zero]; rfl)
      case hst5 => kernel_rfl
      case hft5 => kernel_rfl
      case hrt5 => kernel_rfl
      case hQt5 => exact fun _ _ _ h => h
      case hSt5 => assumption
      case hyt5 =>
        refine Or.inl ⟨by rfl, ?_⟩
        intro W hS
        exact quiet_build_to 37 #[(0, .tmp 50), (1, .tmp 51), (2, .tmp 52)] rfl [(0, .agg (cF x0)), (1, .agg (cF y)), (2, .agg (cF one))] (by simp [Act.eval]) (pvf x0) (hBu.out _)
      (try simp only [Act.put, List.setIfInBounds_toArray, List.set_cons_zero, List.set_cons_succ])
      refine wpAnyH_ready (rs := [4]) (by kernel_rfl) (by simp) ?_
      refine' (AllReadyH.cons (o := _) ?hir6_4 (fun K hK => ?br6_4) AllReadyH.nil)
      case hir6_4 => (simp only [List.getElem?_toArray, List.getElem?_cons_succ, List.getElem?_cons_zero]; rfl)
      case br6_4 =>
        refine step_of_wp rfl ?_
        refine wp_store_row 37 (.tmp 2) (.tmp 53) rfl w.heap.size (pvf x0) rfl rfl 37 z (X2.out.old H4.out) (okR.out _).1 (okR.out _).2.2 (okR.out _).2.1 ?_
        refine hK.out _ _ ?_ (fun hHeld => ?_)
        exact (Far.of H4.out).row _
        clear hK K
        (try simp only [Act.put, List.setIfInBounds_toArray, List.set_cons_zero, List.set_cons_succ])
        refine' wpAnyH_take (i := 5) (oi := _) (v := _) ?hit8 ?hst8 ?hft8 ?hrt8 ?hQt8 ?hyt8 ?hSt8 ?_
        case hit8 => (simp only [List.getElem?_toArray, List.getElem?_cons_succ, List.getElem?_cons_zero]; rfl)
        case hst8 => kernel_rfl
        case hft8 => kernel_rfl
        case hrt8 => kernel_rfl
        case hQt8 => exact fun _ _ _ h => h
        case hSt8 => assumption
        case hyt8 =>
          refine Or.inl ⟨by rfl, ?_⟩
          intro w hSw
          (try dsimp only at hSw)
          go_simp
          all_goals (with_reducible rfl)
        (try simp only [Act.put, List.setIfInBounds_toArray, List.set_cons_zero, List.set_cons_succ])
        refine wpAnyH_done (by kernel_rfl) ?_ _
        have HF := Lib.hid (below_row (HB2.out.trans (H4.out.mono HB2.out.size)) (Nat.le_refl _) (pvf x0))
        have F2 := Lib.hid ((X2.out.old H4.out).row (pvf x0))
        clear hHeld
        go_wp2_with fail
        refine bodyPost_ret (v := .tuple #[.agg (pvf x0), .bool true]) ?_ rfl ⟨_, by rw [HO.out], PTA.out _ hxv.out, ⟨(okR.out _).1, (okR.out _).2.1, by rw [← (okR.out _).2.2, zs.out]⟩, HF.out⟩
        exact results_row_tmp1 Tryd.results11 _ _ w.heap.size 37 _ _ _ rfl rfl F2.out Tryd.underlying37 (okR.out _).1
  · have HG0 : Hid (decide (okP v) = !b0) := Lib.hid (by rw [HK2.out, hbov]; rfl)
    have hxv : Hid (gx v = 0 - x0) := Lib.hid (by rw [hgx.out, hbov]; rfl)
    clear hbov
    have q0 := Lib.hid (fun o (ho : o.op = .binOp .eql 35 (.tmp 41) (.tmp 42) 35) (ev : Operand → Value) (h1 : ev (.tmp 41) = .agg (cF x0)) (h2 : ev (.tmp 42) = .agg (cF 0)) (V : World) => show (execOp ev o).run Tryd.prog V = .ok (.value (.bool b0)) V by
      rw [← hd0.out]; exact quiet_eql_F V (.tmp 41) (.tmp 42) 35 _ _ (digs_length _ _ _) (digs_length _ _ _) h1 h2 ho)
    cases hb0v : b0
    · have HO : Hid (decide (okP v) = true) := Lib.hid (by rw [HG0.out, hb0v]; rfl)
      rw [hb0v] at q0
      clear hb0v
      go_upto_region 11 with (first | (refine wpList_quietG rfl (.agg (cF x0)) (quiet_load_row 35 (.tmp 8) g8 rfl 35 (cF x0) _ X8.out Tryd.underlying35 rfl (cF_ok _).1 rfl) ?_) | (refine wpList_quietG rfl (.agg (cF 0)) (quiet_build_to 35 #[] rfl [] (by simp [Act.eval]) (cF 0) built_nilF) ?_) | (refine wpList_quietG rfl (.bool false) (q0.out _ rfl _ rfl rfl _) ?_))
      clear HG0 q0 hd0
      go_upto_region 12 with (first | (refine wpList_load_row rfl 35 (.tmp 8) rfl g8 rfl 35 (cF x0) (0, 0) _ X8.out Tryd.underlying35 rfl (cF_ok _).1 ?_))
      refine (rNeg _ _).mono ?_
      rintro e w5 ⟨rfl, hb⟩
      have X2 := Lib.hid ((X2.out.old hb).rowFar (g' := g8) (fun e => N8.out e.symm) (cF (0 - x0)))
      have X6 := Lib.hid ((X6.out.old hb).rowFar (g' := g8) N68.out (cF (0 - x0)))
      have X8 := Lib.hid (X8.out.old hb)
      have XV := Lib.hid (X8.out.row (cF (0 - x0)))
      have HB2 := Lib.hid (below_row (g := g8) (HB2.out.trans (hb.mono HB2.out.size)) L8.out (cF (0 - x0)))
      clear hb
      go_upto_region 12 with (first | (refine wpList_store_row rfl 35 (.tmp 8) (.tmp 49) rfl g8 (cF (0 - x0)) rfl rfl 35 (cF x0) X8.out (cF_ok _).1 (cF_sz _ _) (cF_ok _).2 ?_))
      generalize w5.setRow g8 (cF (0 - x0)) = W5 at *
      (try simp only [Act.put, List.setIfInBounds_toArray, List.set_cons_zero, List.set_cons_succ])
      refine wp_region_held_drew (S := fun V => Far w.heap.size W5 V) (by kernel_rfl) (Far.of (Below.refl _ _).drew) (fun hHeld => ?_)
      have HBW5 := Lib.hid ((Below.refl W5.heap.size W5).drew)
      generalize W5.drew = VW5 at *
      refine' wpAnyH_take (i := 0) (oi := _) (v := .agg (cF (0 - x0))) ?hit9 ?hst9 ?hft9 ?hrt9 ?hQt9 ?hyt9 ?hSt9 ?_
      case hit9 => (simp only [List.getElem?_toArray, List.getElem?_cons_succ, List.getElem?_cons_zero]; rfl)
      case hst9 => kernel_rfl
      case hft9 => kernel_rfl
      case hrt9 => kernel_rfl
      case hQt9 => exact fun _ _ _ h => h
      case hSt9 => assumption
      case hyt9 =>
        refine Or.inl ⟨by rfl, ?_⟩
        intro W hS
        exact quiet_load_row 35 (.tmp 8) _ rfl 35 (cF (0 - x0)) _ (hS _ _ _ (by have := N6.out; have := N8.out; omega) XV.out) Tryd.underlying35 rfl (cF_ok _).1 rfl
      (try simp only [Act.put, List.setIfInBounds_toArray, List.set_cons_zero, List.set_cons_succ])
      refine' wpAnyH_take (i := 1) (oi := _) (v := .agg (cF y)) ?hit10 ?hst10 ?hft10 ?hrt10 ?hQt10 ?hyt10 ?hSt10 ?_
      case hit10 => (simp only [List.getElem?_toArray, List.getElem?_cons_succ, List.getElem?_cons_zero]; rfl)
      case hst10 => kernel_rfl
      case hft10 => kernel_rfl
      case hrt10 => kernel_rfl
      case hQt10 => exact fun _ _ _ h => h
      case hSt10 => assumption
      case hyt10 =>
        refine Or.inl ⟨by rfl, ?_⟩
        intro W hS
        exact quiet_load_row 35 (.tmp 6) _ rfl 35 (cF y) _ (hS _ _ _ (by have := N6.out; have := N8.out; omega) X6.out) Tryd.underlying35 rfl (cF_ok _).1 rfl
      (try simp only [Act.put, List.setIfInBounds_toArray, List.set_cons_zero, List.set_cons_succ])
      refine wpAnyH_ready (rs := [2]) (by kernel_rfl) (by simp) ?_
      refine' (AllReadyH.cons (o := _) ?hir11_2 (fun K hK => ?br11_2) AllReadyH.nil)
      case hir11_2 => (simp only [List.getElem?_toArray, List.getElem?_cons_succ, List.getElem?_cons_zero]; rfl)
      case br11_2 =>
        go_simp
        refine (C1.out _).mono ?_
        rintro e w12 ⟨rfl, hb12⟩
        have H12 := Lib.hid (HBW5.out.trans (hb12.mono HBW5.out.size))
        clear hb12
        go_wp2_with fail
        refine hK.out _ _ ?_ (fun hHeld => ?_)
        exact Far.of H12.out
        clear hK K
        (try simp only [Act.put, List.setIfInBounds_toArray, List.set_cons_zero, List.set_cons_succ])
        refine' wpAnyH_take (i := 3) (oi := _) (v := .agg (pvf (0 - x0))) ?hit13 ?hst13 ?hft13 ?hrt13 ?hQt13 ?hyt13 ?hSt13 ?_
        case hit13 => (simp only [List.getElem?_toArray, List.getElem?_cons_succ, List.getElem?_cons_zero]; rfl)
        case hst13 => kernel_rfl
        case hft13 => kernel_rfl
        case hrt13 => kernel_rfl
        case hQt13 => exact fun _ _ _ h => h
        case hSt13 => assumption
        case hyt13 =>
          refine Or.inl ⟨by rfl, ?_⟩
          intro W hS
          exact quiet_build_to 37 #[(0, .tmp 50), (1, .tmp 51), (2, .tmp 52)] rfl [(0, .agg (cF (0 - x0))), (1, .agg (cF y)), (2, .agg (cF one))] (by simp [Act.eval]) (pvf (0 - x0)) (hBu.out _)
        (try simp only [Act.put, List.setIfInBounds_toArray, List.set_cons_zero, List.set_cons_succ])
        refine wpAnyH_ready (rs := [4]) (by kernel_rfl) (by simp) ?_
        refine' (AllReadyH.cons (o := _) ?hir14_4 (fun K hK => ?br14_4) AllReadyH.nil)
        case hir14_4 => (simp only [List.getElem?_toArray, List.getElem?_cons_succ, List.getElem?_cons_zero]; rfl)
        case br14_4 =>
          refine step_of_wp rfl ?_
          refine wp_store_row 37 (.tmp 2) (.tmp 53) rfl w.heap.size (pvf (0 - x0)) rfl rfl 37 z (X2.out.old H12.out) (okR.out _).1 (okR.out _).2.2 (okR.out _).2.1 ?_
          refine hK.out _ _ ?_ (fun hHeld => ?_)
          exact (Far.of H12.out).row _
          clear hK K
          (try simp only [Act.put, List.setIfInBounds_toArray, List.set_cons_zero, List.set_cons_succ])
          refine' wpAnyH_take (i := 5) (oi := _) (v := _) ?hit16 ?hst16 ?hft16 ?hrt16 ?hQt16 ?hyt16 ?hSt16 ?_
          case hit16 => (simp only [List.getElem?_toArray, List.getElem?_cons_succ, List.getElem?_cons_zero]; rfl)
          case hst16 => kernel_rfl
          case hft16 => kernel_rfl
          case hrt16 => kernel_rfl
          case hQt16 => exact fun _ _ _ h => h
          case hSt16 => assumption
          case hyt16 =>
            refine Or.inl ⟨by rfl, ?_⟩
            intro w hSw
            (try dsimp only at hSw)
            go_simp
            all_goals (with_reducible rfl)
          (try simp only [Act.put, List.setIfInBounds_toArray, List.set_cons_zero, List.set_cons_succ])
          refine wpAnyH_done (by kernel_rfl) ?_ _
          have HF := Lib.hid (below_row (HB2.out.trans (H12.out.mono HB2.out.size)) (Nat.le_refl _) (pvf (0 - x0)))
          have F2 := Lib.hid ((X2.out.old H12.out).row (pvf (0 - x0)))
          clear hHeld
          go_wp2_with fail
          refine bodyPost_ret (v := .tuple #[.agg (pvf (0 - x0)), .bool true]) ?_ rfl ⟨_, by rw [HO.out], PTA.out _ hxv.out, ⟨(okR.out _).1, (okR.out _).2.1, by rw [← (okR.out _).2.2, zs.out]⟩, HF.out⟩
          exact results_row_tmp1 Tryd.results11 _ _ w.heap.size 37 _ _ _ rfl rfl F2.out Tryd.underlying37 (okR.out _).1
    · have ho : decide (okP v) = false := by rw [HG0.out, hb0v]; rfl
      rw [hb0v] at q0
      have XF := Lib.hid (X2.out.row z)
      have HF := Lib.hid (below_row HB2.out (Nat.le_refl _) z)
      clear hb0v
      go_wp2_with (first | (refine wpList_quietG rfl (.agg (cF x0)) (quiet_load_row 35 (.tmp 8) g8 rfl 35 (cF x0) _ X8.out Tryd.underlying35 rfl (cF_ok _).1 rfl) ?_) | (refine wpList_quietG rfl (.agg (cF 0)) (quiet_build_to 35 #[] rfl [] (by simp [Act.eval]) (cF 0) built_nilF) ?_) | (refine wpList_quietG rfl (.bool true) (q0.out _ rfl _ rfl rfl _) ?_) |
        (refine wpList_build_to rfl 37 #[] rfl [] (by simp [Act.eval]) z HBN.out ?_) | (refine wpList_store_row rfl 37 (.tmp 2) (.tmp 46) rfl w.heap.size z rfl rfl 37 z X2.out okz.out.1 rfl okz.out.2 ?_))
      obtain ⟨C, hC1, hC2, hC3⟩ := DEAD.out ho _ XF.out HF.out
      refine bodyPost_ret (v := .tuple #[.agg z, .bool false]) ?_ rfl ⟨C, by rw [hC1], hC2, hC3⟩
      exact results_row_tmp1 Tryd.results11 _ _ w.heap.size 37 _ _ _ rfl rfl XF.out Tryd.underlying37 okz.out.1
end Go.Proofs.YtjiadbaaggifpaaDoor
end

section
set_option linter.unusedVariables false
set_option linter.unusedSimpArgs false
namespace Go.Proofs.YtjiadbaaggifpaaDoor
open Go Go.Proofs Go.RowKit F5

/-- The program's points are as they must be, in worlds of a kind that calls keep; PP tells which cells stand for a point. -/
structure PtOk (Q : World → Prop) (PP : Pt → Array Value → Prop) (zv : Array Value) : Prop where
  old : ∀ {w w' : World}, Q w → Below w.heap.size w w' → Q w'
  zero_run : ∀ W : World, (zeroValue 30).run Tryd.prog W = .ok (.agg zv) W
  ok : ∀ {p : Pt} {c : Array Value}, PP p c → (Tryd.prog.info? 30).map (·.size) = some c.size ∧ c.all (·.oneCell') = true ∧ zv.size = c.size
  okz : (Tryd.prog.info? 30).map (·.size) = some zv.size ∧ zv.all (·.oneCell') = true
  bytes : ∀ {p : Pt} {c : Array Value} (w : World), PP p c → Q w → Calls Tryd.prog 12 #[.agg c] w fun e w' => e = .returned (.agg (bytesA (fbytes (enc p)))) ∧ Below w.heap.size w w'
  get : ∀ (v : Nat) (ad : Addr) (n : Nat) (w : World), v < 2 ^ 256 → Reads w w.heap.size 1 (some ad) 32 (Lib.byteCells (fbytes v)) → 32 ≤ n → n ≤ maxLen → Q w →
    Calls Tryd.prog 10 #[.slice (some ad) 32 n] w fun e w' => ∃ c x, e = .returned (.tuple #[.agg c, .int .i64 x]) ∧ (if okP v then x = 0 else x = 8) ∧ (∀ h : okP v, PP (pget v h) c) ∧ (Tryd.prog.info? 30).map (·.size) = some c.size ∧ c.all (·.oneCell') = true ∧ zv.size = c.size ∧ Below w.heap.size w w'
  other : ∀ (l : List UInt8) (A : Option Addr) (n c : Nat) (w : World), n ≠ 32 → n ≤ 1000 → n ≤ c → c ≤ maxLen → Reads w w.heap.size 1 A n (Lib.byteCells l) → Q w →
    Calls Tryd.prog 10 #[.slice A n c] w fun e w' => ∃ c', e = .returned (.tuple #[.agg c', .int .i64 (if n < 32 then 2 else 4)]) ∧ (Tryd.prog.info? 30).map (·.size) = some c'.size ∧ c'.all (·.oneCell') = true ∧ zv.size = c'.size ∧ Below w.heap.size w w'
  zero : ∀ w : World, Q w → Calls Tryd.prog 24 #[] w fun e w' => ∃ c, e = .returned (.agg c) ∧ PP pzero c ∧ Below w.heap.size w w'
  base : ∀ w : World, Q w → Calls Tryd.prog 20 #[] w fun e w' => ∃ c, e = .returned (.agg c) ∧ PP pbase c ∧ Below w.heap.size w w'
  add : ∀ {p q : Pt} {a b : Array Value} (w : World), PP p a → PP q b → Q w → Calls Tryd.prog 15 #[.agg a, .agg b] w fun e w' => ∃ c, e = .returned (.agg c) ∧ PP (padd p q) c ∧ Below w.heap.size w w'
  neg : ∀ {p : Pt} {a : Array Value} (w : World), PP p a → Q w → Calls Tryd.prog 17 #[.agg a] w fun e w' => ∃ c, e = .returned (.agg c) ∧ PP (pneg p) c ∧ Below w.heap.size w w'
  times : ∀ {p : Pt} {a : Array Value} (v : Nat) (w : World), v < 2 ^ 256 → PP p a → Q w → Calls Tryd.prog 21 #[.agg a, .agg (bytesA (fbytes v))] w fun e w' => ∃ c, e = .returned (.agg c) ∧ PP (pmul v p) c ∧ Below w.heap.size w w'
  same : ∀ {p q : Pt} {a b : Array Value} (w : World), PP p a → PP q b → Q w → Calls Tryd.prog 19 #[.agg a, .agg b] w fun e w' => e = .returned (.bool (decide (enc p = enc q))) ∧ Below w.heap.size w w'
end Go.Proofs.YtjiadbaaggifpaaDoor
end

section
set_option linter.unusedVariables false
set_option linter.unusedSimpArgs false
namespace Go.Proofs.YtjiadbaaggifpaaDoor
open Go Go.Proofs Go.RowKit F5

set_option maxHeartbeats 4000000 in
set_option maxRecDepth 100000 in
theorem same_pt {Q : World → Prop} {PP : Pt → Array Value → Prop} {zv : Array Value} (H : PtOk Q PP zv) {p q : Pt} {cn cm : Array Value} (hp : PP p cn) (hq : PtAt q cm) (w : World) (hQ : Q w) :
    Calls Tryd.prog 13 #[.agg cn, .agg cm] w fun e w' => e = .returned (.bool (decide (enc p = enc q))) ∧ Below w.heap.size w w' := by
  have HNM : Hid (decide (fbytes (enc p) = fbytes (enc q)) = decide (enc p = enc q)) := Lib.hid (decide_eq_decide.2 (fbytes_inj (enc_lt p) (enc_lt q)))
  have okp := H.ok hp
  have CB : Hid (∀ V, Q V → Calls Tryd.prog 12 #[.agg cn] V fun e w' => e = .returned (.agg (bytesA (fbytes (enc p)))) ∧ Below V.heap.size V w') := Lib.hid fun V hV => H.bytes V hp hV
  have CR : Hid (∀ V, Calls Tryd.prog 41 #[.agg cm] V fun e w' => ∃ s, e = .returned s ∧ w'.ownsRow V.heap.size 5 1 s 32 (Lib.byteCells (fbytes (enc q))) ∧ Below V.heap.size V w') := Lib.hid fun V => refPtBytes_any hq V
  have HFI : Hid ((Tryd.prog.info? 37).map (·.size) = some cm.size) := Lib.hid hq.ok.1
  have hie : Hid ((Tryd.prog.info? 30).map (·.size) = some cn.size) := Lib.hid okp.1
  obtain ⟨n, hn⟩ := named (enc p)
  obtain ⟨m, hm⟩ := named (enc q)
  rw [← hn.out] at CB
  rw [← hm.out] at CR
  rw [← hn.out, ← hm.out] at HNM ⊢
  clear hn hm hp hq okp
  obtain ⟨z, hz⟩ : ∃ z, Hid (z = bytesA (List.replicate 32 0)) := ⟨_, Lib.hid rfl⟩
  have hz0 : ∀ W, (zeroValue 40).run Tryd.prog W = .ok (.agg z) W := by
    rw [hz.out]; exact (zero_of_info (n := 32) (by kernel_rfl)).1
  have hx2 : Hid (Blk ((w.alloc (.cells cn 30)).alloc (.cells cm 37)) w.heap.size 30 cn) := Lib.hid ((Blk.new w _ cn).alloc _)
  go_enter Tryd.func13, Tryd.ntmps13
  go_wp2_with (first | (refine wpList_load_row rfl 30 (.tmp 2) rfl w.heap.size rfl 30 cn (0, 0) _ hx2.out Tryd.underlying30 rfl hie.out ?_))
  have hy : Blk ((w.alloc (.cells cn 30)).alloc (.cells cm 37)) (w.heap.size + 1) 37 cm := by
    have := Blk.new (w.alloc (.cells cn 30)) 37 cm
    rwa [show (w.alloc (.cells cn 30)).heap.size = w.heap.size + 1 by simp] at this
  have hb0 : Below w.heap.size w ((w.alloc (.cells cn 30)).alloc (.cells cm 37)) := ((Below.refl _ _).alloc (Nat.le_refl _) _).alloc (by simp) _
  refine (CB.out _ (H.old hQ hb0)).mono ?_
  rintro e w1 ⟨rfl, hb1⟩
  have HY := Lib.hid (hy.old hb1)
  have HB1 := Lib.hid (hb0.trans (hb1.mono hb0.size))
  have hRi := Lib.hid (fbytes_info n)
  have hR1 := Lib.hid (bytesA_one (fbytes n))
  have hzz : Hid (z.size = (bytesA (fbytes n)).size) := Lib.hid (by rw [hz.out, bytesA_size, bytesA_size, fbytes_length]; rfl)
  clear hy hb0 hb1
  go_wp2_with (first | (refine wpList_store_row rfl 40 (.tmp 5) (.tmp 7) rfl w1.heap.size (bytesA (fbytes n)) rfl rfl 40 z (heap_alloc_new w1 _) hRi.out hzz.out hR1.out ?_; rw [setRow_alloc1]))
  have hN := Blk.new w1 40 (bytesA (fbytes n))
  have hY2 := HY.out.alloc (.cells (bytesA (fbytes n)) 40)
  have hb2 := HB1.out.alloc HB1.out.size (.cells (bytesA (fbytes n)) 40)
  have hsl := slice32 w1.heap.size
  generalize w1.alloc (.cells (bytesA (fbytes n)) 40) = W0 at *
  have hbd : Below W0.heap.size W0 W0.drew := (Below.refl _ _).drew
  have HN := Lib.hid hN
  have HY2 := Lib.hid hY2
  have HB2 := Lib.hid hb2
  have hFi := HFI
  clear hN hY2 hb2
  refine wp_region_held_drew (S := fun W => Below W0.heap.size W0 W) (by kernel_rfl) hbd (fun hHeld => ?_)
  refine' wpAnyH_take (i := 0) (oi := _) (v := _) ?hit0 ?hst0 ?hft0 ?hrt0 ?hQt0 ?hyt0 ?hSt0 ?_
  case hit0 => (simp only [List.getElem?_toArray, List.getElem?_cons_succ, List.getElem?_cons_zero]; rfl)
  case hst0 => kernel_rfl
  case hft0 => kernel_rfl
  case hrt0 => kernel_rfl
  case hQt0 => exact fun _ _ _ h => h
  case hSt0 => assumption
  case hyt0 =>
    refine Or.inl ⟨by rfl, ?_⟩
    intro w hSw
    (try dsimp only at hSw)
    go_simp
    all_goals (with_reducible rfl)
  (try simp only [Act.put, List.setIfInBounds_toArray, List.set_cons_zero, List.set_cons_succ])
  refine' wpAnyH_take (i := 1) (oi := _) (v := .string ⟨(fbytes n).toArray⟩) ?hit1 ?hst1 ?hft1 ?hrt1 ?hQt1 ?hyt1 ?hSt1 ?_
  case hit1 => (simp only [List.getElem?_toArray, List.getElem?_cons_succ, List.getElem?_cons_zero]; rfl)
  case hst1 => kernel_rfl
  case hft1 => kernel_rfl
  case hrt1 => kernel_rfl
  case hQt1 => exact fun _ _ _ h => h
  case hSt1 => assumption
  case hyt1 =>
    refine Or.inl ⟨by rfl, ?_⟩
    intro W hS
    exact quiet_back (.tmp 8) (some ⟨w1.heap.size, 0, none⟩) 32 32 _ (fbytes n) rfl (by have := reads_blk (HN.out.old hS); rwa [fbytes_length] at this) rfl
  (try simp only [Act.put, List.setIfInBounds_toArray, List.set_cons_zero, List.set_cons_succ])
  refine' wpAnyH_take (i := 2) (oi := _) (v := .agg cm) ?hit2 ?hst2 ?hft2 ?hrt2 ?hQt2 ?hyt2 ?hSt2 ?_
  case hit2 => (simp only [List.getElem?_toArray, List.getElem?_cons_succ, List.getElem?_cons_zero]; rfl)
  case hst2 => kernel_rfl
  case hft2 => kernel_rfl
  case hrt2 => kernel_rfl
  case hQt2 => exact fun _ _ _ h => h
  case hSt2 => assumption
  case hyt2 =>
    refine Or.inl ⟨by rfl, ?_⟩
    intro W hS
    exact quiet_load_row 37 (.tmp 3) (w.heap.size + 1) rfl 37 cm _ (HY2.out.old hS) Tryd.underlying37 rfl hFi.out rfl
  (try simp only [Act.put, List.setIfInBounds_toArray, List.set_cons_zero, List.set_cons_succ])
  refine wpAnyH_ready (rs := [3]) (by kernel_rfl) (by simp) ?_
  refine' AllReadyH.cons (o := _) ?hir3 (fun K hK => ?_) AllReadyH.nil
  case hir3 => (simp only [List.getElem?_toArray, List.getElem?_cons_succ, List.getElem?_cons_zero]; rfl)
  go_simp
  go_at_call 41
  refine (CR.out _).mono ?_
  rintro e w6 ⟨v6, rfl, ho6, hb6⟩
  obtain ⟨A6, c6, rfl, hc6⟩ := own_form_cap ho6
  have hr6 := Reads.of_own ho6
  refine hK.out _ _ ?_ (fun hHeld => ?_)
  exact hbd.trans (hb6.mono hbd.size)
  clear hK K
  (try simp only [Act.put, List.setIfInBounds_toArray, List.set_cons_zero, List.set_cons_succ])
  refine wpAnyH_ready (rs := [4]) (by kernel_rfl) (by simp) ?_
  refine' AllReadyH.cons (o := _) ?hir4 (fun K hK => ?_) AllReadyH.nil
  case hir4 => (simp only [List.getElem?_toArray, List.getElem?_cons_succ, List.getElem?_cons_zero]; rfl)
  refine step_of_wp rfl ?_
  refine wp_back (.tmp 11) A6 32 c6 _ (fbytes m) rfl hr6 rfl ?_
  refine hK.out _ _ ?_ (fun hHeld => ?_)
  exact hbd.trans (hb6.mono hbd.size)
  clear hK K
  (try simp only [Act.put, List.setIfInBounds_toArray, List.set_cons_zero, List.set_cons_succ])
  refine' wpAnyH_take (i := 5) (oi := _) (v := _) ?hit5 ?hst5 ?hft5 ?hrt5 ?hQt5 ?hyt5 ?hSt5 ?_
  case hit5 => (simp only [List.getElem?_toArray, List.getElem?_cons_succ, List.getElem?_cons_zero]; rfl)
  case hst5 => kernel_rfl
  case hft5 => kernel_rfl
  case hrt5 => kernel_rfl
  case hQt5 => exact fun _ _ _ h => h
  case hSt5 => assumption
  case hyt5 =>
    refine Or.inl ⟨by rfl, ?_⟩
    intro w hSw
    (try dsimp only at hSw)
    go_simp
    all_goals (with_reducible rfl)
  (try simp only [Act.put, List.setIfInBounds_toArray, List.set_cons_zero, List.set_cons_succ])
  refine' wpAnyH_take (i := 6) (oi := _) (v := _) ?hit6 ?hst6 ?hft6 ?hrt6 ?hQt6 ?hyt6 ?hSt6 ?_
  case hit6 => (simp only [List.getElem?_toArray, List.getElem?_cons_succ, List.getElem?_cons_zero]; rfl)
  case hst6 => kernel_rfl
  case hft6 => kernel_rfl
  case hrt6 => kernel_rfl
  case hQt6 => exact fun _ _ _ h => h
  case hSt6 => assumption
  case hyt6 =>
    refine Or.inl ⟨by rfl, ?_⟩
    intro w hSw
    (try dsimp only at hSw)
    go_simp
    all_goals (with_reducible rfl)
  (try simp only [Act.put, List.setIfInBounds_toArray, List.set_cons_zero, List.set_cons_succ])
  refine wpAnyH_done (by kernel_rfl) ?_ _
  go_wp2
  go_ret
  refine ⟨ret_bool ?_, HB2.out.trans ((hbd.trans (hb6.mono hbd.size)).mono HB2.out.size)⟩
  rw [← HNM.out, Bool.eq_iff_iff]
  simp
end Go.Proofs.YtjiadbaaggifpaaDoor
end

section
set_option linter.unusedVariables false
set_option linter.unusedSimpArgs false
namespace Go.Proofs.YtjiadbaaggifpaaDoor
open Go Go.Proofs Go.RowKit F5

theorem enc_base : enc pbase = baseY := by decide +kernel
theorem base_bytes (i x : Nat) (hi : i < 32) (h : decide (baseY / 256 ^ i % 256 = x) = true) : (bytesA (fbytes (enc pbase)))[i]? = some (.int .u8 (x : Int)) := by
  have h1 : i < (fbytes (enc pbase)).length := by rw [fbytes_length]; exact hi
  rw [bytesA_get _ _ h1, fbytes_get _ _ hi, enc_base, of_decide_eq_true h]

set_option maxHeartbeats 1000000 in
set_option maxRecDepth 100000 in
theorem awake7_any {Q : World → Prop} {PP : Pt → Array Value → Prop} {zv : Array Value} (H : PtOk Q PP zv) (w : World) (hQ : Q w) :
    Calls Tryd.prog 9 #[] w fun e w' => e = .returned (.bool true) ∧ Below w.heap.size w w' := by
  have HQ := Lib.hid hQ
  obtain ⟨z, hz⟩ : ∃ z, Hid (z = bytesA (List.replicate 32 0)) := ⟨_, Lib.hid rfl⟩
  have hz0 : ∀ W, (zeroValue 40).run Tryd.prog W = .ok (.agg z) W := by
    rw [hz.out]; exact (zero_of_info (n := 32) (by kernel_rfl)).1
  obtain ⟨bs, hbs⟩ : ∃ b, Hid (b = bytesA (fbytes (enc pbase))) := ⟨_, Lib.hid rfl⟩
  have hRi : Hid ((Tryd.prog.info? 40).map (·.size) = some bs.size) := by rw [hbs.out]; exact Lib.hid (fbytes_info _)
  have hR1 : Hid (bs.all (·.oneCell') = true) := by rw [hbs.out]; exact Lib.hid (bytesA_one _)
  have hzz : Hid (z.size = bs.size) := Lib.hid (by rw [hz.out, hbs.out, bytesA_size, bytesA_size, fbytes_length]; rfl)
  have k0 : Hid (bs[0]? = some (.int .u8 88)) := by rw [hbs.out]; exact Lib.hid (base_bytes 0 88 (by omega) (by decide +kernel))
  have k1 : Hid (bs[1]? = some (.int .u8 102)) := by rw [hbs.out]; exact Lib.hid (base_bytes 1 102 (by omega) (by decide +kernel))
  have k31 : Hid (bs[31]? = some (.int .u8 102)) := by rw [hbs.out]; exact Lib.hid (base_bytes 31 102 (by omega) (by decide +kernel))
  have CB : Hid (∀ c V, PP pbase c → Q V → Calls Tryd.prog 12 #[.agg c] V fun e w' => e = .returned (.agg bs) ∧ Below V.heap.size V w') := Lib.hid fun c V h hV => by rw [hbs.out]; exact H.bytes V h hV
  clear hQ hz hbs
  go_enter Tryd.func9, Tryd.ntmps9
  go_wp2_with fail
  refine (H.base _ HQ.out).mono ?_
  rintro e w1 ⟨c, rfl, hc, hb⟩
  have HC := Lib.hid hc
  have HB := Lib.hid hb
  have HQ1 := Lib.hid (H.old HQ.out hb)
  clear hb hc
  go_wp2_with fail
  refine (CB.out _ _ HC.out HQ1.out).mono ?_
  rintro e w2 ⟨rfl, hb⟩
  have HB2 := Lib.hid ((HB.out.trans (hb.mono HB.out.size)).alloc (HB.out.trans (hb.mono HB.out.size)).size (.cells bs 40))
  have X1 := Lib.hid (Blk.new w2 40 bs)
  clear hb
  go_upto_region 2 with (first | (refine wpList_store_row rfl 40 (.tmp 1) (.tmp 3) rfl w2.heap.size bs rfl rfl 40 z (heap_alloc_new w2 _) hRi.out hzz.out hR1.out ?_; rw [setRow_alloc1]))
  generalize w2.alloc (.cells bs 40) = W at *
  generalize w2.heap.size = g at *
  have c0 := (X1.out.cell 0).trans k0.out
  have c1 := (X1.out.cell 1).trans k1.out
  have c31 := (X1.out.cell 31).trans k31.out
  have hal : Tryd.prog.arrayLen 40 = 32 := by kernel_rfl
  have hel : Tryd.prog.elem 40 = 5 := by kernel_rfl
  go_wp2_with fail
  go_ret
  exact ⟨rfl, HB2.out⟩
end Go.Proofs.YtjiadbaaggifpaaDoor
end

section
set_option linter.unusedVariables false
set_option linter.unusedSimpArgs false
namespace Go.Proofs.YtjiadbaaggifpaaDoor
open Go Go.Proofs Go.RowKit F5

def PSh (zv c : Array Value) : Prop := (Tryd.prog.info? 30).map (·.size) = some c.size ∧ c.all (·.oneCell') = true ∧ zv.size = c.size
theorem results_two_structs {fn : Func} {p1 p2 u : Tmp} {t1 t2 : TypeId} {P : Program} (h : fn.results = #[.cell p1 t1, .cell p2 t2, .tmp u]) (tmps : Array Value) (w : World) (g1 g2 : Nat) (c1 c2 : Array Value) (v : Value) (T1 T2 : TypeId) (l l2 : Array Field)
    (hp1 : tmps.getD p1 undef = .pointer (some ⟨g1, 0, none⟩)) (hp2 : tmps.getD p2 undef = .pointer (some ⟨g2, 0, none⟩)) (hv : tmps.getD u undef = v) (hg1 : Blk w g1 T1 c1) (hg2 : Blk w g2 T2 c2)
    (hu1 : P.underlying t1 = some (.struct l)) (hu2 : P.underlying t2 = some (.struct l2)) (hi1 : (P.info? t1).map (·.size) = some c1.size) (hi2 : (P.info? t2).map (·.size) = some c2.size) :
    (results fn tmps).run P w = .ok (.tuple #[.agg c1, .agg c2, v]) w := by
  have l1 := run_loadVar_row (P := P) w g1 T1 t1 c1 (0, 0) (.struct l) hg1 hu1 rfl hi1
  have l2 := run_loadVar_row (P := P) w g2 T2 t2 c2 (0, 0) (.struct l2) hg2 hu2 rfl hi2
  have e : (results fn tmps).run P w = ((asAddr (tmps.getD p1 undef)).run P w).andThen fun a w₁ => ((loadVar t1 a).run P w₁).andThen fun v1 w₂ => ((asAddr (tmps.getD p2 undef)).run P w₂).andThen fun a2 w₃ => ((loadVar t2 a2).run P w₃).andThen fun v2 w₄ => .ok (.tuple #[v1, v2, tmps.getD u undef]) w₄ := by
    simp only [results, h]
    simp [Sem.run_bind, Result.andThen]
  rw [e, hp1, hp2, hv]
  simp [asAddr, Result.andThen, l1, l2]


set_option maxHeartbeats 8000000 in
set_option maxRecDepth 100000 in
theorem two_pt {Q : World → Prop} {PP : Pt → Array Value → Prop} {zv : Array Value} (H : PtOk Q PP zv) (v : Nat) (hv : v < 2 ^ 256) (w : World) (hP : Q w) :
    Calls Tryd.prog 14 #[.agg (bytesA (fbytes v))] w fun e w' => ∃ cu cf, e = .returned (.tuple #[.agg cu, .agg cf, .bool (decide (okP v))]) ∧ (∀ h : okP v, PP (pget v h) cu) ∧ (∀ h : okP v, PtAt (pget v h) cf) ∧ PSh zv cu ∧ PShape cf ∧ Below w.heap.size w w' := by
  have HP := Lib.hid hP
  have HV := Lib.hid hv
  obtain ⟨z, hz⟩ : ∃ z, Hid (z = pV 0 0 0) := ⟨_, Lib.hid rfl⟩
  have hz0 : ∀ W, (zeroValue 37).run Tryd.prog W = .ok (.agg z) W := by rw [hz.out]; exact zeroP
  have zs : Hid (z.size = 48) := Lib.hid (by rw [hz.out]; exact pV_size _ _ _)
  have hzp0 : ∀ W : World, (zeroValue 30).run Tryd.prog W = .ok (.agg zv) W := H.zero_run
  obtain ⟨b, hb⟩ : ∃ b, Hid (b = decide (okP v)) := ⟨_, Lib.hid rfl⟩
  have CG := Lib.hid (fun ad W (hr : Reads W W.heap.size 1 (some ad) 32 (Lib.byteCells (fbytes v))) (hq : Q W) => H.get v ad 32 W HV.out hr (by omega) (by unfold maxLen; omega) hq)
  have CR : Hid (∀ ad c W, Reads W W.heap.size 1 (some ad) 32 (Lib.byteCells (fbytes v)) → Calls Tryd.prog 11 #[.slice (some ad) 32 c] W fun e w' => ∃ C, e = .returned (.tuple #[.agg C, .bool b]) ∧ (∀ h : okP v, PtAt (pget v h) C) ∧ PShape C ∧ Below W.heap.size W w') := Lib.hid fun ad c W hr => by
    rw [hb.out]; exact refGet_any v HV.out ad c _ W hr (Nat.le_refl _)
  have hrd : Hid (∀ W g, Blk W g 40 (bytesA (fbytes v)) → Reads W W.heap.size 1 (some ⟨g, 0, none⟩) 32 (Lib.byteCells (fbytes v))) := Lib.hid fun W g h => by
    have := reads_blk h
    rwa [fbytes_length] at this
  rw [← hb.out]
  obtain ⟨a, ha⟩ : ∃ a, Hid (a = bytesA (fbytes v)) := ⟨_, Lib.hid rfl⟩
  rw [← ha.out] at hrd ⊢
  have hW0 : Blk (((w.alloc (.cells a 40)).alloc (.cells zv 30)).alloc (.cells z 37)) w.heap.size 40 a ∧ Blk (((w.alloc (.cells a 40)).alloc (.cells zv 30)).alloc (.cells z 37)) (w.heap.size + 1) 30 zv ∧ Blk (((w.alloc (.cells a 40)).alloc (.cells zv 30)).alloc (.cells z 37)) (w.heap.size + 2) 37 z ∧
      Below w.heap.size w (((w.alloc (.cells a 40)).alloc (.cells zv 30)).alloc (.cells z 37)) := by
    have h1 := ((Blk.new w 40 a).alloc (.cells zv 30)).alloc (.cells z 37)
    have h2 := (Blk.new (w.alloc (.cells a 40)) 30 zv).alloc (.cells z 37)
    have h3 := Blk.new ((w.alloc (.cells a 40)).alloc (.cells zv 30)) 37 z
    rw [show (w.alloc (.cells a 40)).heap.size = w.heap.size + 1 by simp] at h2
    rw [show ((w.alloc (.cells a 40)).alloc (.cells zv 30)).heap.size = w.heap.size + 2 by simp] at h3
    exact ⟨h1, h2, h3, (((Below.refl _ _).alloc (Nat.le_refl _) _).alloc (by simp) _).alloc (by simp; omega) _⟩
  clear hP hv
  go_enter Tryd.func14, Tryd.ntmps14
  go_upto_region 1 with fail
  generalize ((w.alloc (.cells a 40)).alloc (.cells zv 30)).alloc (.cells z 37) = W at *
  obtain ⟨x0, x1, x2, hbl⟩ := hW0
  have X0 := Lib.hid x0
  have X1 := Lib.hid x1
  have X2 := Lib.hid x2
  have HB := Lib.hid hbl
  clear x0 x1 x2 hbl
  have hsl := slice32 w.heap.size
  go_upto_region 2 with fail
  refine (CG.out _ _ (hrd.out _ _ X0.out) (H.old HP.out HB.out)).mono ?_
  rintro e w1 ⟨cu, er, rfl, her, hPP, i1, i2, i3, hb1⟩
  have ou := Lib.hid (show _ ∧ _ ∧ _ from ⟨i1, i2, i3⟩)
  have HPP := Lib.hid hPP
  have hcase : Hid ((b = true ∧ er = 0) ∨ (b = false ∧ er = 8)) := by
    rw [hb.out]
    by_cases h : okP v
    · rw [if_pos h] at her; exact Lib.hid (.inl ⟨by simpa using h, her⟩)
    · rw [if_neg h] at her; exact Lib.hid (.inr ⟨by simpa using h, her⟩)
  clear her hPP i1 i2 i3
  have Y0 := Lib.hid (X0.out.old hb1)
  have Y1 := Lib.hid (X1.out.old hb1)
  have Y2 := Lib.hid (X2.out.old hb1)
  have HB1 := Lib.hid (HB.out.trans (hb1.mono HB.out.size))
  clear hb1
  go_upto_region 2 with (first | (refine wpList_store_row rfl 30 (.tmp 5) (.tmp 12) rfl w1.heap.size cu rfl rfl 30 _ (heap_alloc_new w1 _) ou.out.1 ou.out.2.2 ou.out.2.1 ?_; rw [setRow_alloc1]))
  have X0' := Lib.hid (Y0.out.alloc (.cells cu 30))
  have X1' := Lib.hid (Y1.out.alloc (.cells cu 30))
  have X2' := Lib.hid (Y2.out.alloc (.cells cu 30))
  have X5 := Lib.hid (Blk.new w1 30 cu)
  have HB2 := Lib.hid (HB1.out.alloc HB1.out.size (.cells cu 30))
  have L5 := Lib.hid (show w.heap.size + 2 < w1.heap.size from Y2.out.lt)
  generalize w1.alloc (.cells cu 30) = W1 at *
  generalize w1.heap.size = g5 at *
  go_upto_region 3 with fail
  refine (CR.out _ _ _ (hrd.out _ _ X0'.out)).mono ?_
  rintro e w2 ⟨cf, rfl, hPt, hsh, hb1⟩
  have of := Lib.hid (show _ ∧ _ ∧ z.size = cf.size from ⟨hsh.1, hsh.2.1, by rw [zs.out, hsh.2.2]⟩)
  have HPT := Lib.hid hPt
  have HSH := Lib.hid hsh
  clear hPt hsh
  have Y1' := Lib.hid (X1'.out.old hb1)
  have Y2' := Lib.hid (X2'.out.old hb1)
  have Y5 := Lib.hid (X5.out.old hb1)
  have HB3 := Lib.hid (HB2.out.trans (hb1.mono HB2.out.size))
  clear hb1
  go_upto_region 3 with (first | (refine wpList_store_row rfl 37 (.tmp 7) (.tmp 17) rfl w2.heap.size cf rfl rfl 37 z (heap_alloc_new w2 _) of.out.1 of.out.2.2 of.out.2.1 ?_; rw [setRow_alloc1]))
  have V1 := Lib.hid (Y1'.out.alloc (.cells cf 37))
  have V2 := Lib.hid (Y2'.out.alloc (.cells cf 37))
  have V5 := Lib.hid (Y5.out.alloc (.cells cf 37))
  have V7 := Lib.hid (Blk.new w2 37 cf)
  have HB4 := Lib.hid (HB3.out.alloc HB3.out.size (.cells cf 37))
  have L7 := Lib.hid (show g5 < w2.heap.size from Y5.out.lt)
  generalize w2.alloc (.cells cf 37) = W2 at *
  generalize w2.heap.size = g7 at *
  clear hz0
  (try simp only [Act.put, List.setIfInBounds_toArray, List.set_cons_zero, List.set_cons_succ])
  rcases hcase.out with ⟨hbt, hert⟩ | ⟨hbt, hert⟩
  · skip
    have HBT := Lib.hid hbt
    clear hcase
    subst hbt hert
    refine wp_region_held_drew (S := fun V => Blk V g5 30 cu ∧ Blk V g7 37 cf) (by kernel_rfl) ⟨V5.out.drew, V7.out.drew⟩ (fun hHeld => ?_)
    have HB0 := Lib.hid ((Below.refl W2.heap.size W2).drew)
    generalize W2.drew = V0 at *
    refine' wpAnyH_take (i := 0) (oi := _) (v := .agg cu) ?hit1 ?hst1 ?hft1 ?hrt1 ?hQt1 ?hyt1 ?hSt1 ?_
    case hit1 => (simp only [List.getElem?_toArray, List.getElem?_cons_succ, List.getElem?_cons_zero]; rfl)
    case hst1 => kernel_rfl
    case hft1 => kernel_rfl
    case hrt1 => kernel_rfl
    case hQt1 => exact fun _ _ _ h => h
    case hSt1 => assumption
    case hyt1 =>
      refine Or.inl ⟨by rfl, ?_⟩
      intro W hS
      exact quiet_load_row 30 (.tmp 5) _ rfl 30 cu _ hS.1 Tryd.underlying30 rfl ou.out.1 rfl
    (try simp only [Act.put, List.setIfInBounds_toArray, List.set_cons_zero, List.set_cons_succ])
    refine' wpAnyH_take (i := 1) (oi := _) (v := .agg cf) ?hit2 ?hst2 ?hft2 ?hrt2 ?hQt2 ?hyt2 ?hSt2 ?_
    case hit2 => (simp only [List.getElem?_toArray, List.getElem?_cons_succ, List.getElem?_cons_zero]; rfl)
    case hst2 => kernel_rfl
    case hft2 => kernel_rfl
    case hrt2 => kernel_rfl
    case hQt2 => exact fun _ _ _ h => h
    case hSt2 => assumption
    case hyt2 =>
      refine Or.inl ⟨by rfl, ?_⟩
      intro W hS
      exact quiet_load_row 37 (.tmp 7) _ rfl 37 cf _ hS.2 Tryd.underlying37 rfl of.out.1 rfl
    (try simp only [Act.put, List.setIfInBounds_toArray, List.set_cons_zero, List.set_cons_succ])
    refine' wpAnyH_take (i := 2) (oi := _) (v := _) ?hit3 ?hst3 ?hft3 ?hrt3 ?hQt3 ?hyt3 ?hSt3 ?_
    case hit3 => (simp only [List.getElem?_toArray, List.getElem?_cons_succ, List.getElem?_cons_zero]; rfl)
    case hst3 => kernel_rfl
    case hft3 => kernel_rfl
    case hrt3 => kernel_rfl
    case hQt3 => exact fun _ _ _ h => h
    case hSt3 => assumption
    case hyt3 =>
      refine Or.inl ⟨by rfl, ?_⟩
      intro w hSw
      (try dsimp only at hSw)
      go_simp
      all_goals (with_reducible rfl)
    (try simp only [Act.put, List.setIfInBounds_toArray, List.set_cons_zero, List.set_cons_succ])
    refine' wpAnyH_take (i := 3) (oi := _) (v := _) ?hit4 ?hst4 ?hft4 ?hrt4 ?hQt4 ?hyt4 ?hSt4 ?_
    case hit4 => (simp only [List.getElem?_toArray, List.getElem?_cons_succ, List.getElem?_cons_zero]; rfl)
    case hst4 => kernel_rfl
    case hft4 => kernel_rfl
    case hrt4 => kernel_rfl
    case hQt4 => exact fun _ _ _ h => h
    case hSt4 => assumption
    case hyt4 =>
      refine Or.inl ⟨by rfl, ?_⟩
      intro w hSw
      (try dsimp only at hSw)
      go_simp
      all_goals (with_reducible rfl)
    (try simp only [Act.put, List.setIfInBounds_toArray, List.set_cons_zero, List.set_cons_succ])
    refine' wpAnyH_take (i := 4) (oi := _) (v := _) ?hit5 ?hst5 ?hft5 ?hrt5 ?hQt5 ?hyt5 ?hSt5 ?_
    case hit5 => (simp only [List.getElem?_toArray, List.getElem?_cons_succ, List.getElem?_cons_zero]; rfl)
    case hst5 => kernel_rfl
    case hft5 => kernel_rfl
    case hrt5 => kernel_rfl
    case hQt5 => exact fun _ _ _ h => h
    case hSt5 => assumption
    case hyt5 =>
      refine Or.inl ⟨by rfl, ?_⟩
      intro w hSw
      (try dsimp only at hSw)
      go_simp
      all_goals (with_reducible rfl)
    (try simp only [Act.put, List.setIfInBounds_toArray, List.set_cons_zero, List.set_cons_succ])
    refine' wpAnyH_take (i := 5) (oi := _) (v := _) ?hit6 ?hst6 ?hft6 ?hrt6 ?hQt6 ?hyt6 ?hSt6 ?_
    case hit6 => (simp only [List.getElem?_toArray, List.getElem?_cons_succ, List.getElem?_cons_zero]; rfl)
    case hst6 => kernel_rfl
    case hft6 => kernel_rfl
    case hrt6 => kernel_rfl
    case hQt6 => exact fun _ _ _ h => h
    case hSt6 => assumption
    case hyt6 =>
      refine Or.inl ⟨by rfl, ?_⟩
      intro w hSw
      (try dsimp only at hSw)
      go_simp
      all_goals (with_reducible rfl)
    (try simp only [Act.put, List.setIfInBounds_toArray, List.set_cons_zero, List.set_cons_succ])
    refine' wpAnyH_take (i := 6) (oi := _) (v := _) ?hit7 ?hst7 ?hft7 ?hrt7 ?hQt7 ?hyt7 ?hSt7 ?_
    case hit7 => (simp only [List.getElem?_toArray, List.getElem?_cons_succ, List.getElem?_cons_zero]; rfl)
    case hst7 => kernel_rfl
    case hft7 => kernel_rfl
    case hrt7 => kernel_rfl
    case hQt7 => exact fun _ _ _ h => h
    case hSt7 => assumption
    case hyt7 =>
      refine Or.inl ⟨by rfl, ?_⟩
      intro w hSw
      (try dsimp only at hSw)
      go_simp
      all_goals (with_reducible rfl)
    (try simp only [Act.put, List.setIfInBounds_toArray, List.set_cons_zero, List.set_cons_succ])
    refine wpAnyH_ready (rs := [7]) (by kernel_rfl) (by simp) ?_
    refine' (AllReadyH.cons (o := _) ?hir8_7 (fun K hK => ?br8_7) AllReadyH.nil)
    case hir8_7 => (simp only [List.getElem?_toArray, List.getElem?_cons_succ, List.getElem?_cons_zero]; rfl)
    case br8_7 =>
      refine step_of_wp rfl ?_
      refine wp_store_row 30 (.tmp 2) (.tmp 19) rfl (w.heap.size + 1) cu rfl rfl 30 _ (V1.out.old HB0.out) ou.out.1 ou.out.2.2 ou.out.2.1 ?_
      refine hK.out _ _ ?_ (fun hHeld => ?_)
      exact ⟨(V5.out.old HB0.out).rowFar (by have := L5.out; omega) _, (V7.out.old HB0.out).rowFar (by have := L5.out; have := L7.out; omega) _⟩
      clear hK K
      (try simp only [Act.put, List.setIfInBounds_toArray, List.set_cons_zero, List.set_cons_succ])
      refine wpAnyH_ready (rs := [8]) (by kernel_rfl) (by simp) ?_
      refine' (AllReadyH.cons (o := _) ?hir10_8 (fun K hK => ?br10_8) AllReadyH.nil)
      case hir10_8 => (simp only [List.getElem?_toArray, List.getElem?_cons_succ, List.getElem?_cons_zero]; rfl)
      case br10_8 =>
        refine step_of_wp rfl ?_
        refine wp_store_row 37 (.tmp 3) (.tmp 20) rfl (w.heap.size + 2) cf rfl rfl 37 z ((V2.out.old HB0.out).rowFar (by omega) _) of.out.1 of.out.2.2 of.out.2.1 ?_
        refine hK.out _ _ ?_ (fun hHeld => ?_)
        exact ⟨((V5.out.old HB0.out).rowFar (by have := L5.out; omega) _).rowFar (by have := L5.out; omega) _, ((V7.out.old HB0.out).rowFar (by have := L5.out; have := L7.out; omega) _).rowFar (by have := L5.out; have := L7.out; omega) _⟩
        clear hK K
        (try simp only [Act.put, List.setIfInBounds_toArray, List.set_cons_zero, List.set_cons_succ])
        refine' wpAnyH_take (i := 9) (oi := _) (v := _) ?hit12 ?hst12 ?hft12 ?hrt12 ?hQt12 ?hyt12 ?hSt12 ?_
        case hit12 => (simp only [List.getElem?_toArray, List.getElem?_cons_succ, List.getElem?_cons_zero]; rfl)
        case hst12 => kernel_rfl
        case hft12 => kernel_rfl
        case hrt12 => kernel_rfl
        case hQt12 => exact fun _ _ _ h => h
        case hSt12 => assumption
        case hyt12 =>
          refine Or.inl ⟨by rfl, ?_⟩
          intro w hSw
          (try dsimp only at hSw)
          go_simp
          all_goals (with_reducible rfl)
        (try simp only [Act.put, List.setIfInBounds_toArray, List.set_cons_zero, List.set_cons_succ])
        refine wpAnyH_done (by kernel_rfl) ?_ _
        have hfe := Lib.hid ((((V1.out.old HB0.out).row cu).rowFar (g' := w.heap.size + 2) (by omega) cf))
        have hff := Lib.hid (((V2.out.old HB0.out).rowFar (g' := w.heap.size + 1) (by omega) cu).row cf)
        have hbe := Lib.hid (below_row (below_row (HB4.out.trans (HB0.out.mono HB4.out.size)) (show w.heap.size ≤ w.heap.size + 1 by omega) cu) (show w.heap.size ≤ w.heap.size + 2 by omega) cf)
        generalize World.setRow _ (w.heap.size + 2) cf = VF at *
        clear hHeld
        go_wp2_with fail
        refine bodyPost_ret (v := .tuple #[.agg cu, .agg cf, .bool true]) ?_ rfl ⟨cu, cf, rfl, HPP.out, HPT.out, ou.out, HSH.out, hbe.out⟩
        exact results_two_structs Tryd.results14 _ _ _ _ _ _ _ _ _ _ _ rfl rfl rfl hfe.out hff.out Tryd.underlying30 Tryd.underlying37 ou.out.1 of.out.1
  · skip
    have HBT := Lib.hid hbt
    clear hcase
    subst hbt hert
    refine wp_region_held_drew (S := fun V => Blk V g5 30 cu ∧ Blk V g7 37 cf) (by kernel_rfl) ⟨V5.out.drew, V7.out.drew⟩ (fun hHeld => ?_)
    have HB0 := Lib.hid ((Below.refl W2.heap.size W2).drew)
    generalize W2.drew = V0 at *
    refine' wpAnyH_take (i := 0) (oi := _) (v := .agg cu) ?hit13 ?hst13 ?hft13 ?hrt13 ?hQt13 ?hyt13 ?hSt13 ?_
    case hit13 => (simp only [List.getElem?_toArray, List.getElem?_cons_succ, List.getElem?_cons_zero]; rfl)
    case hst13 => kernel_rfl
    case hft13 => kernel_rfl
    case hrt13 => kernel_rfl
    case hQt13 => exact fun _ _ _ h => h
    case hSt13 => assumption
    case hyt13 =>
      refine Or.inl ⟨by rfl, ?_⟩
      intro W hS
      exact quiet_load_row 30 (.tmp 5) _ rfl 30 cu _ hS.1 Tryd.underlying30 rfl ou.out.1 rfl
    (try simp only [Act.put, List.setIfInBounds_toArray, List.set_cons_zero, List.set_cons_succ])
    refine' wpAnyH_take (i := 1) (oi := _) (v := .agg cf) ?hit14 ?hst14 ?hft14 ?hrt14 ?hQt14 ?hyt14 ?hSt14 ?_
    case hit14 => (simp only [List.getElem?_toArray, List.getElem?_cons_succ, List.getElem?_cons_zero]; rfl)
    case hst14 => kernel_rfl
    case hft14 => kernel_rfl
    case hrt14 => kernel_rfl
    case hQt14 => exact fun _ _ _ h => h
    case hSt14 => assumption
    case hyt14 =>
      refine Or.inl ⟨by rfl, ?_⟩
      intro W hS
      exact quiet_load_row 37 (.tmp 7) _ rfl 37 cf _ hS.2 Tryd.underlying37 rfl of.out.1 rfl
    (try simp only [Act.put, List.setIfInBounds_toArray, List.set_cons_zero, List.set_cons_succ])
    refine' wpAnyH_take (i := 2) (oi := _) (v := _) ?hit15 ?hst15 ?hft15 ?hrt15 ?hQt15 ?hyt15 ?hSt15 ?_
    case hit15 => (simp only [List.getElem?_toArray, List.getElem?_cons_succ, List.getElem?_cons_zero]; rfl)
    case hst15 => kernel_rfl
    case hft15 => kernel_rfl
    case hrt15 => kernel_rfl
    case hQt15 => exact fun _ _ _ h => h
    case hSt15 => assumption
    case hyt15 =>
      refine Or.inl ⟨by rfl, ?_⟩
      intro w hSw
      (try dsimp only at hSw)
      go_simp
      all_goals (with_reducible rfl)
    (try simp only [Act.put, List.setIfInBounds_toArray, List.set_cons_zero, List.set_cons_succ])
    refine' wpAnyH_take (i := 3) (oi := _) (v := _) ?hit16 ?hst16 ?hft16 ?hrt16 ?hQt16 ?hyt16 ?hSt16 ?_
    case hit16 => (simp only [List.getElem?_toArray, List.getElem?_cons_succ, List.getElem?_cons_zero]; rfl)
    case hst16 => kernel_rfl
    case hft16 => kernel_rfl
    case hrt16 => kernel_rfl
    case hQt16 => exact fun _ _ _ h => h
    case hSt16 => assumption
    case hyt16 =>
      refine Or.inl ⟨by rfl, ?_⟩
      intro w hSw
      (try dsimp only at hSw)
      go_simp
      all_goals (with_reducible rfl)
    (try simp only [Act.put, List.setIfInBounds_toArray, List.set_cons_zero, List.set_cons_succ])
    refine' wpAnyH_take (i := 4) (oi := _) (v := undef) ?hit17 ?hst17 ?hft17 ?hrt17 ?hQt17 ?hyt17 ?hSt17 ?_
    case hit17 => (simp only [List.getElem?_toArray, List.getElem?_cons_succ, List.getElem?_cons_zero]; rfl)
    case hst17 => kernel_rfl
    case hft17 => kernel_rfl
    case hrt17 => kernel_rfl
    case hQt17 => exact fun _ _ _ h => h
    case hSt17 => assumption
    case hyt17 =>
      exact Or.inr ⟨by rfl, rfl⟩
    (try simp only [Act.put, List.setIfInBounds_toArray, List.set_cons_zero, List.set_cons_succ])
    refine' wpAnyH_take (i := 5) (oi := _) (v := undef) ?hit18 ?hst18 ?hft18 ?hrt18 ?hQt18 ?hyt18 ?hSt18 ?_
    case hit18 => (simp only [List.getElem?_toArray, List.getElem?_cons_succ, List.getElem?_cons_zero]; rfl)
    case hst18 => kernel_rfl
    case hft18 => kernel_rfl
    case hrt18 => kernel_rfl
    case hQt18 => exact fun _ _ _ h => h
    case hSt18 => assumption
    case hyt18 =>
      exact Or.inr ⟨by rfl, rfl⟩
    (try simp only [Act.put, List.setIfInBounds_toArray, List.set_cons_zero, List.set_cons_succ])
    refine' wpAnyH_take (i := 6) (oi := _) (v := _) ?hit19 ?hst19 ?hft19 ?hrt19 ?hQt19 ?hyt19 ?hSt19 ?_
    case hit19 => (simp only [List.getElem?_toArray, List.getElem?_cons_succ, List.getElem?_cons_zero]; rfl)
    case hst19 => kernel_rfl
    case hft19 => kernel_rfl
    case hrt19 => kernel_rfl
    case hQt19 => exact fun _ _ _ h => h
    case hSt19 => assumption
    case hyt19 =>
      refine Or.inl ⟨by rfl, ?_⟩
      intro w hSw
      (try dsimp only at hSw)
      go_simp
      all_goals (with_reducible rfl)
    (try simp only [Act.put, List.setIfInBounds_toArray, List.set_cons_zero, List.set_cons_succ])
    refine wpAnyH_ready (rs := [7]) (by kernel_rfl) (by simp) ?_
    refine' (AllReadyH.cons (o := _) ?hir20_7 (fun K hK => ?br20_7) AllReadyH.nil)
    case hir20_7 => (simp only [List.getElem?_toArray, List.getElem?_cons_succ, List.getElem?_cons_zero]; rfl)
    case br20_7 =>
      refine step_of_wp rfl ?_
      refine wp_store_row 30 (.tmp 2) (.tmp 19) rfl (w.heap.size + 1) cu rfl rfl 30 _ (V1.out.old HB0.out) ou.out.1 ou.out.2.2 ou.out.2.1 ?_
      refine hK.out _ _ ?_ (fun hHeld => ?_)
      exact ⟨(V5.out.old HB0.out).rowFar (by have := L5.out; omega) _, (V7.out.old HB0.out).rowFar (by have := L5.out; have := L7.out; omega) _⟩
      clear hK K
      (try simp only [Act.put, List.setIfInBounds_toArray, List.set_cons_zero, List.set_cons_succ])
      refine wpAnyH_ready (rs := [8]) (by kernel_rfl) (by simp) ?_
      refine' (AllReadyH.cons (o := _) ?hir22_8 (fun K hK => ?br22_8) AllReadyH.nil)
      case hir22_8 => (simp only [List.getElem?_toArray, List.getElem?_cons_succ, List.getElem?_cons_zero]; rfl)
      case br22_8 =>
        refine step_of_wp rfl ?_
        refine wp_store_row 37 (.tmp 3) (.tmp 20) rfl (w.heap.size + 2) cf rfl rfl 37 z ((V2.out.old HB0.out).rowFar (by omega) _) of.out.1 of.out.2.2 of.out.2.1 ?_
        refine hK.out _ _ ?_ (fun hHeld => ?_)
        exact ⟨((V5.out.old HB0.out).rowFar (by have := L5.out; omega) _).rowFar (by have := L5.out; omega) _, ((V7.out.old HB0.out).rowFar (by have := L5.out; have := L7.out; omega) _).rowFar (by have := L5.out; have := L7.out; omega) _⟩
        clear hK K
        (try simp only [Act.put, List.setIfInBounds_toArray, List.set_cons_zero, List.set_cons_succ])
        refine' wpAnyH_take (i := 9) (oi := _) (v := _) ?hit24 ?hst24 ?hft24 ?hrt24 ?hQt24 ?hyt24 ?hSt24 ?_
        case hit24 => (simp only [List.getElem?_toArray, List.getElem?_cons_succ, List.getElem?_cons_zero]; rfl)
        case hst24 => kernel_rfl
        case hft24 => kernel_rfl
        case hrt24 => kernel_rfl
        case hQt24 => exact fun _ _ _ h => h
        case hSt24 => assumption
        case hyt24 =>
          refine Or.inl ⟨by rfl, ?_⟩
          intro w hSw
          (try dsimp only at hSw)
          go_simp
          all_goals (with_reducible rfl)
        (try simp only [Act.put, List.setIfInBounds_toArray, List.set_cons_zero, List.set_cons_succ])
        refine wpAnyH_done (by kernel_rfl) ?_ _
        have hfe := Lib.hid ((((V1.out.old HB0.out).row cu).rowFar (g' := w.heap.size + 2) (by omega) cf))
        have hff := Lib.hid (((V2.out.old HB0.out).rowFar (g' := w.heap.size + 1) (by omega) cu).row cf)
        have hbe := Lib.hid (below_row (below_row (HB4.out.trans (HB0.out.mono HB4.out.size)) (show w.heap.size ≤ w.heap.size + 1 by omega) cu) (show w.heap.size ≤ w.heap.size + 2 by omega) cf)
        generalize World.setRow _ (w.heap.size + 2) cf = VF at *
        clear hHeld
        go_wp2_with fail
        refine bodyPost_ret (v := .tuple #[.agg cu, .agg cf, .bool false]) ?_ rfl ⟨cu, cf, rfl, HPP.out, HPT.out, ou.out, HSH.out, hbe.out⟩
        exact results_two_structs Tryd.results14 _ _ _ _ _ _ _ _ _ _ _ rfl rfl rfl hfe.out hff.out Tryd.underlying30 Tryd.underlying37 ou.out.1 of.out.1
end Go.Proofs.YtjiadbaaggifpaaDoor
end

section
set_option linter.unusedVariables false
set_option linter.unusedSimpArgs false
namespace Go.Proofs.YtjiadbaaggifpaaDoor
open Go Go.Proofs Go.RowKit F5

theorem sameT {Q : World → Prop} {PP : Pt → Array Value → Prop} {zv : Array Value} (H : PtOk Q PP zv) {p q : Pt} {a b : Array Value} (heq : p = q) (w : World) (hp : PP p a) (hq : PP q b) (hQ : Q w) :
    Calls Tryd.prog 19 #[.agg a, .agg b] w fun e w' => e = .returned (.bool true) ∧ Below w.heap.size w w' := by
  subst heq
  have := H.same w hp hq hQ
  rwa [decide_eq_true rfl] at this
theorem same_ptT {Q : World → Prop} {PP : Pt → Array Value → Prop} {zv : Array Value} (H : PtOk Q PP zv) {p q : Pt} {a b : Array Value} (heq : p = q) (hp : PP p a) (hq : PtAt q b) (w : World) (hQ : Q w) :
    Calls Tryd.prog 13 #[.agg a, .agg b] w fun e w' => e = .returned (.bool true) ∧ Below w.heap.size w w' := by
  subst heq
  have := same_pt H hp hq w hQ
  rwa [decide_eq_true rfl] at this
theorem pt_row (w1 : World) (zv z cx cu : Array Value) : Blk ((w1.alloc (.cells zv 30)).alloc (.cells z 37)) w1.heap.size 30 zv ∧
    Blk (((w1.alloc (.cells zv 30)).alloc (.cells z 37)).setRow w1.heap.size cx) (w1.heap.size + 1) 37 z ∧
    Blk ((((w1.alloc (.cells zv 30)).alloc (.cells z 37)).setRow w1.heap.size cx).setRow (w1.heap.size + 1) cu) w1.heap.size 30 cx ∧
    Blk ((((w1.alloc (.cells zv 30)).alloc (.cells z 37)).setRow w1.heap.size cx).setRow (w1.heap.size + 1) cu) (w1.heap.size + 1) 37 cu ∧
    Below w1.heap.size w1 ((((w1.alloc (.cells zv 30)).alloc (.cells z 37)).setRow w1.heap.size cx).setRow (w1.heap.size + 1) cu) := by
  have n7 := (Blk.new w1 30 zv).alloc (.cells z 37)
  have n8 := Blk.new (w1.alloc (.cells zv 30)) 37 z
  rw [show (w1.alloc (.cells zv 30)).heap.size = w1.heap.size + 1 by simp] at n8
  have n8' := n8.rowFar (g' := w1.heap.size) (by omega) cx
  exact ⟨n7, n8', (n7.row cx).rowFar (by omega) cu, n8'.row cu, below_row (below_row (((Below.refl _ _).alloc (Nat.le_refl _) _).alloc (by simp) _) (Nat.le_refl _) cx) (by omega) cu⟩

set_option maxHeartbeats 32000000 in
set_option maxRecDepth 100000 in
theorem plaws_walk {Q : World → Prop} {PP : Pt → Array Value → Prop} {zv : Array Value} (H : PtOk Q PP zv) (v0 v1 v2 : Nat) (hv0 : v0 < 2 ^ 256) (hv1 : v1 < 2 ^ 256) (hv2 : v2 < 2 ^ 256) (w : World) (hQ : Q w) :
    Calls Tryd.prog 6 #[.agg (bytesA (fbytes v0)), .agg (bytesA (fbytes v1)), .agg (bytesA (fbytes v2))] w fun e w' => e = .returned (.bool true) ∧ Below w.heap.size w w' := by
  have HQ := Lib.hid hQ
  obtain ⟨z, hz⟩ : ∃ z, Hid (z = pV 0 0 0) := ⟨_, Lib.hid rfl⟩
  have hz0 : ∀ W, (zeroValue 37).run Tryd.prog W = .ok (.agg z) W := by rw [hz.out]; exact zeroP
  have zs : Hid (z.size = 48) := Lib.hid (by rw [hz.out]; exact pV_size _ _ _)
  have hzp0 : ∀ W : World, (zeroValue 30).run Tryd.prog W = .ok (.agg zv) W := H.zero_run
  obtain ⟨ca0, hca0⟩ : ∃ x, Hid (x = bytesA (fbytes v0)) := ⟨_, Lib.hid rfl⟩
  have hia0 : Hid ((Tryd.prog.info? 40).map (·.size) = some ca0.size) := by rw [hca0.out]; exact Lib.hid (fbytes_info v0)
  obtain ⟨ca1, hca1⟩ : ∃ x, Hid (x = bytesA (fbytes v1)) := ⟨_, Lib.hid rfl⟩
  have hia1 : Hid ((Tryd.prog.info? 40).map (·.size) = some ca1.size) := by rw [hca1.out]; exact Lib.hid (fbytes_info v1)
  obtain ⟨ca2, hca2⟩ : ∃ x, Hid (x = bytesA (fbytes v2)) := ⟨_, Lib.hid rfl⟩
  have hia2 : Hid ((Tryd.prog.info? 40).map (·.size) = some ca2.size) := by rw [hca2.out]; exact Lib.hid (fbytes_info v2)
  have CT0 : Hid (∀ W, Q W → Calls Tryd.prog 14 #[.agg (bytesA (fbytes v0))] W fun e w' => ∃ cu cf, e = .returned (.tuple #[.agg cu, .agg cf, .bool (decide (okP v0))]) ∧ (∀ h : okP v0, PP (pget v0 h) cu) ∧ (∀ h : okP v0, PtAt (pget v0 h) cf) ∧ PSh zv cu ∧ PShape cf ∧ Below W.heap.size W w') := Lib.hid fun W hW => two_pt H v0 hv0 W hW
  obtain ⟨b0, hb0⟩ : ∃ b, Hid (b = decide (okP v0)) := ⟨_, Lib.hid rfl⟩
  rw [← hb0.out] at CT0
  rw [← hca0.out] at CT0
  have CT1 : Hid (∀ W, Q W → Calls Tryd.prog 14 #[.agg (bytesA (fbytes v1))] W fun e w' => ∃ cu cf, e = .returned (.tuple #[.agg cu, .agg cf, .bool (decide (okP v1))]) ∧ (∀ h : okP v1, PP (pget v1 h) cu) ∧ (∀ h : okP v1, PtAt (pget v1 h) cf) ∧ PSh zv cu ∧ PShape cf ∧ Below W.heap.size W w') := Lib.hid fun W hW => two_pt H v1 hv1 W hW
  obtain ⟨b1, hb1⟩ : ∃ b, Hid (b = decide (okP v1)) := ⟨_, Lib.hid rfl⟩
  rw [← hb1.out] at CT1
  rw [← hca1.out] at CT1
  have CT2 : Hid (∀ W, Q W → Calls Tryd.prog 14 #[.agg (bytesA (fbytes v2))] W fun e w' => ∃ cu cf, e = .returned (.tuple #[.agg cu, .agg cf, .bool (decide (okP v2))]) ∧ (∀ h : okP v2, PP (pget v2 h) cu) ∧ (∀ h : okP v2, PtAt (pget v2 h) cf) ∧ PSh zv cu ∧ PShape cf ∧ Below W.heap.size W w') := Lib.hid fun W hW => two_pt H v2 hv2 W hW
  obtain ⟨b2, hb2⟩ : ∃ b, Hid (b = decide (okP v2)) := ⟨_, Lib.hid rfl⟩
  rw [← hb2.out] at CT2
  rw [← hca2.out] at CT2
  rw [← hca0.out, ← hca1.out, ← hca2.out]
  obtain ⟨x0, x1, x2, xb⟩ := (show Blk (((w.alloc (.cells ca0 40)).alloc (.cells ca1 40)).alloc (.cells ca2 40)) (w.heap.size) 40 ca0 ∧ Blk (((w.alloc (.cells ca0 40)).alloc (.cells ca1 40)).alloc (.cells ca2 40)) (w.heap.size + 1) 40 ca1 ∧ Blk (((w.alloc (.cells ca0 40)).alloc (.cells ca1 40)).alloc (.cells ca2 40)) (w.heap.size + 2) 40 ca2 ∧ Below w.heap.size w (((w.alloc (.cells ca0 40)).alloc (.cells ca1 40)).alloc (.cells ca2 40)) by
    have h0 := ((Blk.new w 40 ca0).alloc (.cells ca1 40)).alloc (.cells ca2 40)
    have h1 := (Blk.new (w.alloc (.cells ca0 40)) 40 ca1).alloc (.cells ca2 40)
    rw [show (w.alloc (.cells ca0 40)).heap.size = w.heap.size + 1 by simp] at h1
    have h2 := Blk.new ((w.alloc (.cells ca0 40)).alloc (.cells ca1 40)) 40 ca2
    rw [show ((w.alloc (.cells ca0 40)).alloc (.cells ca1 40)).heap.size = w.heap.size + 2 by simp] at h2
    exact ⟨h0, h1, h2, ((((Below.refl w.heap.size w).alloc (Nat.le_refl _) _).alloc (by simp) _).alloc (by simp; omega) _)⟩)
  clear hQ hz
  go_enter Tryd.func6, Tryd.ntmps6
  go_upto_region 1 with fail
  generalize ((w.alloc (.cells ca0 40)).alloc (.cells ca1 40)).alloc (.cells ca2 40) = W at *
  have X0 := Lib.hid x0
  have X1 := Lib.hid x1
  have X2 := Lib.hid x2
  have HB := Lib.hid xb
  clear x0 x1 x2 xb
  go_upto_region 2 with (first | (refine wpList_load_row rfl 40 (.tmp 3) rfl w.heap.size rfl 40 ca0 (0, 0) _ X0.out Tryd.underlying40 rfl hia0.out ?_))
  refine (CT0.out _ (H.old HQ.out HB.out)).mono ?_
  rintro e w10 ⟨cu0, cf0, rfl, hu0, hf0, hsu0, hsf0, hbb⟩
  obtain ⟨r1, r2, r3, r5, r4⟩ := pt_row w10 zv z cu0 cf0
  have hbc := hbb.trans (r4.mono hbb.size)
  have ou0 := Lib.hid hsu0
  have of0 := Lib.hid (show _ ∧ _ ∧ z.size = cf0.size from ⟨hsf0.1, hsf0.2.1, by rw [zs.out, hsf0.2.2]⟩)
  have HU0 := Lib.hid hu0
  have HF0 := Lib.hid hf0
  have X0 := Lib.hid (X0.out.old hbc)
  have X1 := Lib.hid (X1.out.old hbc)
  have X2 := Lib.hid (X2.out.old hbc)
  have E0 := Lib.hid r3
  have F0 := Lib.hid r5
  have HB := Lib.hid (HB.out.trans (hbc.mono HB.out.size))
  have R1 := Lib.hid r1
  have R2 := Lib.hid r2
  clear hbb r1 r2 r3 r4 r5 hbc hu0 hf0 hsu0 hsf0
  go_upto_region 2 with (first | (refine wpList_store_row rfl 30 (.tmp 7) (.tmp 20) rfl w10.heap.size cu0 rfl rfl 30 _ R1.out ou0.out.1 ou0.out.2.2 ou0.out.2.1 ?_) |
    (refine wpList_store_row rfl 37 (.tmp 8) (.tmp 21) rfl (w10.heap.size + 1) cf0 rfl rfl 37 z R2.out of0.out.1 of0.out.2.2 of0.out.2.1 ?_))
  clear R1 R2
  generalize (((w10.alloc (.cells zv 30)).alloc (.cells z 37)).setRow w10.heap.size cu0).setRow (w10.heap.size + 1) cf0 = W0 at *
  generalize w10.heap.size + 1 = gf0 at *
  generalize w10.heap.size = ge0 at *
  go_upto_region 3 with (first | (refine wpList_load_row rfl 40 (.tmp 4) rfl (w.heap.size + 1) rfl 40 ca1 (0, 0) _ X1.out Tryd.underlying40 rfl hia1.out ?_))
  refine (CT1.out _ (H.old HQ.out HB.out)).mono ?_
  rintro e w11 ⟨cu1, cf1, rfl, hu1, hf1, hsu1, hsf1, hbb⟩
  obtain ⟨r1, r2, r3, r5, r4⟩ := pt_row w11 zv z cu1 cf1
  have hbc := hbb.trans (r4.mono hbb.size)
  have ou1 := Lib.hid hsu1
  have of1 := Lib.hid (show _ ∧ _ ∧ z.size = cf1.size from ⟨hsf1.1, hsf1.2.1, by rw [zs.out, hsf1.2.2]⟩)
  have HU1 := Lib.hid hu1
  have HF1 := Lib.hid hf1
  have X0 := Lib.hid (X0.out.old hbc)
  have X1 := Lib.hid (X1.out.old hbc)
  have X2 := Lib.hid (X2.out.old hbc)
  have E0 := Lib.hid (E0.out.old hbc)
  have F0 := Lib.hid (F0.out.old hbc)
  have E1 := Lib.hid r3
  have F1 := Lib.hid r5
  have HB := Lib.hid (HB.out.trans (hbc.mono HB.out.size))
  have R1 := Lib.hid r1
  have R2 := Lib.hid r2
  clear hbb r1 r2 r3 r4 r5 hbc hu1 hf1 hsu1 hsf1
  go_upto_region 3 with (first | (refine wpList_store_row rfl 30 (.tmp 10) (.tmp 26) rfl w11.heap.size cu1 rfl rfl 30 _ R1.out ou1.out.1 ou1.out.2.2 ou1.out.2.1 ?_) |
    (refine wpList_store_row rfl 37 (.tmp 11) (.tmp 27) rfl (w11.heap.size + 1) cf1 rfl rfl 37 z R2.out of1.out.1 of1.out.2.2 of1.out.2.1 ?_))
  clear R1 R2
  generalize (((w11.alloc (.cells zv 30)).alloc (.cells z 37)).setRow w11.heap.size cu1).setRow (w11.heap.size + 1) cf1 = W1 at *
  generalize w11.heap.size + 1 = gf1 at *
  generalize w11.heap.size = ge1 at *
  go_upto_region 4 with (first | (refine wpList_load_row rfl 40 (.tmp 5) rfl (w.heap.size + 2) rfl 40 ca2 (0, 0) _ X2.out Tryd.underlying40 rfl hia2.out ?_))
  refine (CT2.out _ (H.old HQ.out HB.out)).mono ?_
  rintro e w12 ⟨cu2, cf2, rfl, hu2, hf2, hsu2, hsf2, hbb⟩
  obtain ⟨r1, r2, r3, r5, r4⟩ := pt_row w12 zv z cu2 cf2
  have hbc := hbb.trans (r4.mono hbb.size)
  have ou2 := Lib.hid hsu2
  have of2 := Lib.hid (show _ ∧ _ ∧ z.size = cf2.size from ⟨hsf2.1, hsf2.2.1, by rw [zs.out, hsf2.2.2]⟩)
  have HU2 := Lib.hid hu2
  have HF2 := Lib.hid hf2
  have X0 := Lib.hid (X0.out.old hbc)
  have X1 := Lib.hid (X1.out.old hbc)
  have X2 := Lib.hid (X2.out.old hbc)
  have E0 := Lib.hid (E0.out.old hbc)
  have F0 := Lib.hid (F0.out.old hbc)
  have E1 := Lib.hid (E1.out.old hbc)
  have F1 := Lib.hid (F1.out.old hbc)
  have E2 := Lib.hid r3
  have F2 := Lib.hid r5
  have HB := Lib.hid (HB.out.trans (hbc.mono HB.out.size))
  have R1 := Lib.hid r1
  have R2 := Lib.hid r2
  clear hbb r1 r2 r3 r4 r5 hbc hu2 hf2 hsu2 hsf2
  go_upto_region 4 with (first | (refine wpList_store_row rfl 30 (.tmp 13) (.tmp 32) rfl w12.heap.size cu2 rfl rfl 30 _ R1.out ou2.out.1 ou2.out.2.2 ou2.out.2.1 ?_) |
    (refine wpList_store_row rfl 37 (.tmp 14) (.tmp 33) rfl (w12.heap.size + 1) cf2 rfl rfl 37 z R2.out of2.out.1 of2.out.2.2 of2.out.2.1 ?_))
  clear R1 R2
  generalize (((w12.alloc (.cells zv 30)).alloc (.cells z 37)).setRow w12.heap.size cu2).setRow (w12.heap.size + 1) cf2 = W2 at *
  generalize w12.heap.size + 1 = gf2 at *
  generalize w12.heap.size = ge2 at *
  cases hc0 : b0
  · clear hc0
    go_wp2_with fail
    refine (awake7_any H _ (H.old HQ.out HB.out)).mono ?_
    rintro e w3 ⟨rfl, hbb⟩
    have hbe := Lib.hid (HB.out.trans (hbb.mono HB.out.size))
    clear hbb
    go_wp2
    go_ret
    exact ⟨rfl, hbe.out⟩
  cases hc1 : b1
  · clear hc0 hc1
    go_wp2_with fail
    refine (awake7_any H _ (H.old HQ.out HB.out)).mono ?_
    rintro e w3 ⟨rfl, hbb⟩
    have hbe := Lib.hid (HB.out.trans (hbb.mono HB.out.size))
    clear hbb
    go_wp2
    go_ret
    exact ⟨rfl, hbe.out⟩
  cases hc2 : b2
  · clear hc0 hc1 hc2
    go_wp2_with fail
    refine (awake7_any H _ (H.old HQ.out HB.out)).mono ?_
    rintro e w3 ⟨rfl, hbb⟩
    have hbe := Lib.hid (HB.out.trans (hbb.mono HB.out.size))
    clear hbb
    go_wp2
    go_ret
    exact ⟨rfl, hbe.out⟩
  have ok0 : okP v0 := by have := hb0.out; rw [hc0] at this; simpa using this.symm
  obtain ⟨p0, hp0⟩ : ∃ p, Hid (p = pget v0 ok0) := ⟨_, Lib.hid rfl⟩
  have PU0 : Hid (PP p0 cu0) := by rw [hp0.out]; exact Lib.hid (HU0.out ok0)
  have PF0 : Hid (PtAt p0 cf0) := by rw [hp0.out]; exact Lib.hid (HF0.out ok0)
  have EN0 : Hid (enc p0 = v0) := by rw [hp0.out]; exact Lib.hid (enc_pget hv0 ok0)
  have ok1 : okP v1 := by have := hb1.out; rw [hc1] at this; simpa using this.symm
  obtain ⟨p1, hp1⟩ : ∃ p, Hid (p = pget v1 ok1) := ⟨_, Lib.hid rfl⟩
  have PU1 : Hid (PP p1 cu1) := by rw [hp1.out]; exact Lib.hid (HU1.out ok1)
  have PF1 : Hid (PtAt p1 cf1) := by rw [hp1.out]; exact Lib.hid (HF1.out ok1)
  have EN1 : Hid (enc p1 = v1) := by rw [hp1.out]; exact Lib.hid (enc_pget hv1 ok1)
  have ok2 : okP v2 := by have := hb2.out; rw [hc2] at this; simpa using this.symm
  obtain ⟨p2, hp2⟩ : ∃ p, Hid (p = pget v2 ok2) := ⟨_, Lib.hid rfl⟩
  have PU2 : Hid (PP p2 cu2) := by rw [hp2.out]; exact Lib.hid (HU2.out ok2)
  have PF2 : Hid (PtAt p2 cf2) := by rw [hp2.out]; exact Lib.hid (HF2.out ok2)
  have EN2 : Hid (enc p2 = v2) := by rw [hp2.out]; exact Lib.hid (enc_pget hv2 ok2)
  clear hc0 ok0 hp0 hb0 HU0 HF0 CT0 hc1 ok1 hp1 hb1 HU1 HF1 CT1 hc2 ok2 hp2 hb2 HU2 HF2 CT2
  go_upto_region 7 with fail
  refine (H.zero _ (H.old HQ.out HB.out)).mono ?_
  rintro e w4 ⟨cz, rfl, hpz, hbb⟩
  have oz := H.ok hpz
  have OZ := Lib.hid oz
  have PZ := Lib.hid hpz
  have hbc := hbb.trans (((Below.refl w4.heap.size w4).alloc (Nat.le_refl _) (.cells cz 30)).mono hbb.size)
  have E0 := Lib.hid (E0.out.old hbc)
  have E1 := Lib.hid (E1.out.old hbc)
  have E2 := Lib.hid (E2.out.old hbc)
  have EZ := Lib.hid (Blk.new w4 30 cz)
  have HB := Lib.hid (HB.out.trans (hbc.mono HB.out.size))
  clear hpz oz hbb hbc F0 F1 F2 X0 X1 X2
  go_upto_region 7 with (first | (refine wpList_store_row rfl 30 (.tmp 16) (.tmp 46) rfl w4.heap.size cz rfl rfl 30 _ (heap_alloc_new w4 _) OZ.out.1 OZ.out.2.2 OZ.out.2.1 ?_; rw [setRow_alloc1]))
  generalize w4.alloc (.cells cz 30) = W3 at *
  generalize w4.heap.size = gz at *
  (try simp only [Act.put, List.setIfInBounds_toArray, List.set_cons_zero, List.set_cons_succ])
  refine wp_region_held_drew (S := fun V => Below W3.heap.size W3 V) (by kernel_rfl) (Below.refl _ _).drew (fun hHeld => ?_)
  have HB0 := Lib.hid ((Below.refl W3.heap.size W3).drew)
  generalize W3.drew = V0 at *
  refine' wpAnyH_take (i := 0) (oi := _) (v := .agg cu0) ?hit1 ?hst1 ?hft1 ?hrt1 ?hQt1 ?hyt1 ?hSt1 ?_
  case hit1 => (simp only [List.getElem?_toArray, List.getElem?_cons_succ, List.getElem?_cons_zero]; rfl)
  case hst1 => kernel_rfl
  case hft1 => kernel_rfl
  case hrt1 => kernel_rfl
  case hQt1 => exact fun _ _ _ h => h
  case hSt1 => assumption
  case hyt1 =>
    refine Or.inl ⟨by rfl, ?_⟩
    intro W hS
    exact quiet_load_row 30 (.tmp 7) _ rfl 30 cu0 _ (E0.out.old hS) Tryd.underlying30 rfl ou0.out.1 rfl
  (try simp only [Act.put, List.setIfInBounds_toArray, List.set_cons_zero, List.set_cons_succ])
  refine' wpAnyH_take (i := 1) (oi := _) (v := .agg cu1) ?hit2 ?hst2 ?hft2 ?hrt2 ?hQt2 ?hyt2 ?hSt2 ?_
  case hit2 => (simp only [List.getElem?_toArray, List.getElem?_cons_succ, List.getElem?_cons_zero]; rfl)
  case hst2 => kernel_rfl
  case hft2 => kernel_rfl
  case hrt2 => kernel_rfl
  case hQt2 => exact fun _ _ _ h => h
  case hSt2 => assumption
  case hyt2 =>
    refine Or.inl ⟨by rfl, ?_⟩
    intro W hS
    exact quiet_load_row 30 (.tmp 10) _ rfl 30 cu1 _ (E1.out.old hS) Tryd.underlying30 rfl ou1.out.1 rfl
  (try simp only [Act.put, List.setIfInBounds_toArray, List.set_cons_zero, List.set_cons_succ])
  refine' wpAnyH_take (i := 3) (oi := _) (v := .agg cu1) ?hit3 ?hst3 ?hft3 ?hrt3 ?hQt3 ?hyt3 ?hSt3 ?_
  case hit3 => (simp only [List.getElem?_toArray, List.getElem?_cons_succ, List.getElem?_cons_zero]; rfl)
  case hst3 => kernel_rfl
  case hft3 => kernel_rfl
  case hrt3 => kernel_rfl
  case hQt3 => exact fun _ _ _ h => h
  case hSt3 => assumption
  case hyt3 =>
    refine Or.inl ⟨by rfl, ?_⟩
    intro W hS
    exact quiet_load_row 30 (.tmp 10) _ rfl 30 cu1 _ (E1.out.old hS) Tryd.underlying30 rfl ou1.out.1 rfl
  (try simp only [Act.put, List.setIfInBounds_toArray, List.set_cons_zero, List.set_cons_succ])
  refine' wpAnyH_take (i := 4) (oi := _) (v := .agg cu0) ?hit4 ?hst4 ?hft4 ?hrt4 ?hQt4 ?hyt4 ?hSt4 ?_
  case hit4 => (simp only [List.getElem?_toArray, List.getElem?_cons_succ, List.getElem?_cons_zero]; rfl)
  case hst4 => kernel_rfl
  case hft4 => kernel_rfl
  case hrt4 => kernel_rfl
  case hQt4 => exact fun _ _ _ h => h
  case hSt4 => assumption
  case hyt4 =>
    refine Or.inl ⟨by rfl, ?_⟩
    intro W hS
    exact quiet_load_row 30 (.tmp 7) _ rfl 30 cu0 _ (E0.out.old hS) Tryd.underlying30 rfl ou0.out.1 rfl
  (try simp only [Act.put, List.setIfInBounds_toArray, List.set_cons_zero, List.set_cons_succ])
  refine wpAnyH_ready (rs := [2]) (by kernel_rfl) (by simp) ?_
  refine' (AllReadyH.cons (o := _) ?hir5_2 (fun K hK => ?br5_2) AllReadyH.nil)
  case hir5_2 => (simp only [List.getElem?_toArray, List.getElem?_cons_succ, List.getElem?_cons_zero]; rfl)
  case br5_2 =>
    go_simp
    refine (H.add _ PU0.out PU1.out (H.old (H.old HQ.out HB.out) HB0.out)).mono ?_
    rintro e w6 ⟨c49, rfl, hp6, hb6⟩
    have P49 := Lib.hid hp6
    have H6 := Lib.hid (HB0.out.trans (hb6.mono HB0.out.size))
    clear hp6 hb6
    go_wp2_with fail
    refine hK.out _ _ ?_ (fun hHeld => ?_)
    exact H6.out
    clear hK K
    (try simp only [Act.put, List.setIfInBounds_toArray, List.set_cons_zero, List.set_cons_succ])
    refine wpAnyH_ready (rs := [5]) (by kernel_rfl) (by simp) ?_
    refine' (AllReadyH.cons (o := _) ?hir7_5 (fun K hK => ?br7_5) AllReadyH.nil)
    case hir7_5 => (simp only [List.getElem?_toArray, List.getElem?_cons_succ, List.getElem?_cons_zero]; rfl)
    case br7_5 =>
      go_simp
      refine (H.add _ PU1.out PU0.out (H.old (H.old HQ.out HB.out) H6.out)).mono ?_
      rintro e w8 ⟨c52, rfl, hp8, hb8⟩
      have P52 := Lib.hid hp8
      have H8 := Lib.hid (H6.out.trans (hb8.mono H6.out.size))
      clear hp8 hb8
      go_wp2_with fail
      refine hK.out _ _ ?_ (fun hHeld => ?_)
      exact H8.out
      clear hK K
      (try simp only [Act.put, List.setIfInBounds_toArray, List.set_cons_zero, List.set_cons_succ])
      refine wpAnyH_ready (rs := [6]) (by kernel_rfl) (by simp) ?_
      refine' (AllReadyH.cons (o := _) ?hir9_6 (fun K hK => ?br9_6) AllReadyH.nil)
      case hir9_6 => (simp only [List.getElem?_toArray, List.getElem?_cons_succ, List.getElem?_cons_zero]; rfl)
      case br9_6 =>
        go_simp
        refine (sameT H (padd_comm _ _) _ P49.out P52.out (H.old (H.old HQ.out HB.out) H8.out)).mono ?_
        rintro e w10 ⟨rfl, hb10⟩
        have H10 := Lib.hid (H8.out.trans (hb10.mono H8.out.size))
        clear hb10
        go_wp2_with fail
        refine hK.out _ _ ?_ (fun hHeld => ?_)
        exact H10.out
        clear hK K
        (try simp only [Act.put, List.setIfInBounds_toArray, List.set_cons_zero, List.set_cons_succ])
        refine' wpAnyH_take (i := 7) (oi := _) (v := _) ?hit11 ?hst11 ?hft11 ?hrt11 ?hQt11 ?hyt11 ?hSt11 ?_
        case hit11 => (simp only [List.getElem?_toArray, List.getElem?_cons_succ, List.getElem?_cons_zero]; rfl)
        case hst11 => kernel_rfl
        case hft11 => kernel_rfl
        case hrt11 => kernel_rfl
        case hQt11 => exact fun _ _ _ h => h
        case hSt11 => assumption
        case hyt11 =>
          refine Or.inl ⟨by rfl, ?_⟩
          intro w hSw
          (try dsimp only at hSw)
          go_simp
          all_goals (with_reducible rfl)
        (try simp only [Act.put, List.setIfInBounds_toArray, List.set_cons_zero, List.set_cons_succ])
        refine' wpAnyH_take (i := 8) (oi := _) (v := .agg cu0) ?hit12 ?hst12 ?hft12 ?hrt12 ?hQt12 ?hyt12 ?hSt12 ?_
        case hit12 => (simp only [List.getElem?_toArray, List.getElem?_cons_succ, List.getElem?_cons_zero]; rfl)
        case hst12 => kernel_rfl
        case hft12 => kernel_rfl
        case hrt12 => kernel_rfl
        case hQt12 => exact fun _ _ _ h => h
        case hSt12 => assumption
        case hyt12 =>
          refine Or.inl ⟨by rfl, ?_⟩
          intro W hS
          exact quiet_load_row 30 (.tmp 7) _ rfl 30 cu0 _ (E0.out.old hS) Tryd.underlying30 rfl ou0.out.1 rfl
        (try simp only [Act.put, List.setIfInBounds_toArray, List.set_cons_zero, List.set_cons_succ])
        refine' wpAnyH_take (i := 9) (oi := _) (v := .agg cu1) ?hit13 ?hst13 ?hft13 ?hrt13 ?hQt13 ?hyt13 ?hSt13 ?_
        case hit13 => (simp only [List.getElem?_toArray, List.getElem?_cons_succ, List.getElem?_cons_zero]; rfl)
        case hst13 => kernel_rfl
        case hft13 => kernel_rfl
        case hrt13 => kernel_rfl
        case hQt13 => exact fun _ _ _ h => h
        case hSt13 => assumption
        case hyt13 =>
          refine Or.inl ⟨by rfl, ?_⟩
          intro W hS
          exact quiet_load_row 30 (.tmp 10) _ rfl 30 cu1 _ (E1.out.old hS) Tryd.underlying30 rfl ou1.out.1 rfl
        (try simp only [Act.put, List.setIfInBounds_toArray, List.set_cons_zero, List.set_cons_succ])
        refine' wpAnyH_take (i := 11) (oi := _) (v := .agg cu2) ?hit14 ?hst14 ?hft14 ?hrt14 ?hQt14 ?hyt14 ?hSt14 ?_
        case hit14 => (simp only [List.getElem?_toArray, List.getElem?_cons_succ, List.getElem?_cons_zero]; rfl)
        case hst14 => kernel_rfl
        case hft14 => kernel_rfl
        case hrt14 => kernel_rfl
        case hQt14 => exact fun _ _ _ h => h
        case hSt14 => assumption
        case hyt14 =>
          refine Or.inl ⟨by rfl, ?_⟩
          intro W hS
          exact quiet_load_row 30 (.tmp 13) _ rfl 30 cu2 _ (E2.out.old hS) Tryd.underlying30 rfl ou2.out.1 rfl
        (try simp only [Act.put, List.setIfInBounds_toArray, List.set_cons_zero, List.set_cons_succ])
        refine' wpAnyH_take (i := 13) (oi := _) (v := .agg cu0) ?hit15 ?hst15 ?hft15 ?hrt15 ?hQt15 ?hyt15 ?hSt15 ?_
        case hit15 => (simp only [List.getElem?_toArray, List.getElem?_cons_succ, List.getElem?_cons_zero]; rfl)
        case hst15 => kernel_rfl
        case hft15 => kernel_rfl
        case hrt15 => kernel_rfl
        case hQt15 => exact fun _ _ _ h => h
        case hSt15 => assumption
        case hyt15 =>
          refine Or.inl ⟨by rfl, ?_⟩
          intro W hS
          exact quiet_load_row 30 (.tmp 7) _ rfl 30 cu0 _ (E0.out.old hS) Tryd.underlying30 rfl ou0.out.1 rfl
        (try simp only [Act.put, List.setIfInBounds_toArray, List.set_cons_zero, List.set_cons_succ])
        refine' wpAnyH_take (i := 14) (oi := _) (v := .agg cu1) ?hit16 ?hst16 ?hft16 ?hrt16 ?hQt16 ?hyt16 ?hSt16 ?_
        case hit16 => (simp only [List.getElem?_toArray, List.getElem?_cons_succ, List.getElem?_cons_zero]; rfl)
        case hst16 => kernel_rfl
        case hft16 => kernel_rfl
        case hrt16 => kernel_rfl
        case hQt16 => exact fun _ _ _ h => h
        case hSt16 => assumption
        case hyt16 =>
          refine Or.inl ⟨by rfl, ?_⟩
          intro W hS
          exact quiet_load_row 30 (.tmp 10) _ rfl 30 cu1 _ (E1.out.old hS) Tryd.underlying30 rfl ou1.out.1 rfl
        (try simp only [Act.put, List.setIfInBounds_toArray, List.set_cons_zero, List.set_cons_succ])
        refine' wpAnyH_take (i := 15) (oi := _) (v := .agg cu2) ?hit17 ?hst17 ?hft17 ?hrt17 ?hQt17 ?hyt17 ?hSt17 ?_
        case hit17 => (simp only [List.getElem?_toArray, List.getElem?_cons_succ, List.getElem?_cons_zero]; rfl)
        case hst17 => kernel_rfl
        case hft17 => kernel_rfl
        case hrt17 => kernel_rfl
        case hQt17 => exact fun _ _ _ h => h
        case hSt17 => assumption
        case hyt17 =>
          refine Or.inl ⟨by rfl, ?_⟩
          intro W hS
          exact quiet_load_row 30 (.tmp 13) _ rfl 30 cu2 _ (E2.out.old hS) Tryd.underlying30 rfl ou2.out.1 rfl
        (try simp only [Act.put, List.setIfInBounds_toArray, List.set_cons_zero, List.set_cons_succ])
        refine wpAnyH_ready (rs := [10]) (by kernel_rfl) (by simp) ?_
        refine' (AllReadyH.cons (o := _) ?hir18_10 (fun K hK => ?br18_10) AllReadyH.nil)
        case hir18_10 => (simp only [List.getElem?_toArray, List.getElem?_cons_succ, List.getElem?_cons_zero]; rfl)
        case br18_10 =>
          go_simp
          refine (H.add _ PU0.out PU1.out (H.old (H.old HQ.out HB.out) H10.out)).mono ?_
          rintro e w19 ⟨c57, rfl, hp19, hb19⟩
          have P57 := Lib.hid hp19
          have H19 := Lib.hid (H10.out.trans (hb19.mono H10.out.size))
          clear hp19 hb19
          go_wp2_with fail
          refine hK.out _ _ ?_ (fun hHeld => ?_)
          exact H19.out
          clear hK K
          (try simp only [Act.put, List.setIfInBounds_toArray, List.set_cons_zero, List.set_cons_succ])
          refine wpAnyH_ready (rs := [12]) (by kernel_rfl) (by simp) ?_
          refine' (AllReadyH.cons (o := _) ?hir20_12 (fun K hK => ?br20_12) AllReadyH.nil)
          case hir20_12 => (simp only [List.getElem?_toArray, List.getElem?_cons_succ, List.getElem?_cons_zero]; rfl)
          case br20_12 =>
            go_simp
            refine (H.add _ P57.out PU2.out (H.old (H.old HQ.out HB.out) H19.out)).mono ?_
            rintro e w21 ⟨c59, rfl, hp21, hb21⟩
            have P59 := Lib.hid hp21
            have H21 := Lib.hid (H19.out.trans (hb21.mono H19.out.size))
            clear hp21 hb21
            go_wp2_with fail
            refine hK.out _ _ ?_ (fun hHeld => ?_)
            exact H21.out
            clear hK K
            (try simp only [Act.put, List.setIfInBounds_toArray, List.set_cons_zero, List.set_cons_succ])
            refine wpAnyH_ready (rs := [16]) (by kernel_rfl) (by simp) ?_
            refine' (AllReadyH.cons (o := _) ?hir22_16 (fun K hK => ?br22_16) AllReadyH.nil)
            case hir22_16 => (simp only [List.getElem?_toArray, List.getElem?_cons_succ, List.getElem?_cons_zero]; rfl)
            case br22_16 =>
              go_simp
              refine (H.add _ PU1.out PU2.out (H.old (H.old HQ.out HB.out) H21.out)).mono ?_
              rintro e w23 ⟨c63, rfl, hp23, hb23⟩
              have P63 := Lib.hid hp23
              have H23 := Lib.hid (H21.out.trans (hb23.mono H21.out.size))
              clear hp23 hb23
              go_wp2_with fail
              refine hK.out _ _ ?_ (fun hHeld => ?_)
              exact H23.out
              clear hK K
              (try simp only [Act.put, List.setIfInBounds_toArray, List.set_cons_zero, List.set_cons_succ])
              refine wpAnyH_ready (rs := [17]) (by kernel_rfl) (by simp) ?_
              refine' (AllReadyH.cons (o := _) ?hir24_17 (fun K hK => ?br24_17) AllReadyH.nil)
              case hir24_17 => (simp only [List.getElem?_toArray, List.getElem?_cons_succ, List.getElem?_cons_zero]; rfl)
              case br24_17 =>
                go_simp
                refine (H.add _ PU0.out P63.out (H.old (H.old HQ.out HB.out) H23.out)).mono ?_
                rintro e w25 ⟨c64, rfl, hp25, hb25⟩
                have P64 := Lib.hid hp25
                have H25 := Lib.hid (H23.out.trans (hb25.mono H23.out.size))
                clear hp25 hb25
                go_wp2_with fail
                refine hK.out _ _ ?_ (fun hHeld => ?_)
                exact H25.out
                clear hK K
                (try simp only [Act.put, List.setIfInBounds_toArray, List.set_cons_zero, List.set_cons_succ])
                refine wpAnyH_ready (rs := [18]) (by kernel_rfl) (by simp) ?_
                refine' (AllReadyH.cons (o := _) ?hir26_18 (fun K hK => ?br26_18) AllReadyH.nil)
                case hir26_18 => (simp only [List.getElem?_toArray, List.getElem?_cons_succ, List.getElem?_cons_zero]; rfl)
                case br26_18 =>
                  go_simp
                  refine (sameT H (padd_assoc _ _ _) _ P59.out P64.out (H.old (H.old HQ.out HB.out) H25.out)).mono ?_
                  rintro e w27 ⟨rfl, hb27⟩
                  have H27 := Lib.hid (H25.out.trans (hb27.mono H25.out.size))
                  clear hb27
                  go_wp2_with fail
                  refine hK.out _ _ ?_ (fun hHeld => ?_)
                  exact H27.out
                  clear hK K
                  (try simp only [Act.put, List.setIfInBounds_toArray, List.set_cons_zero, List.set_cons_succ])
                  refine' wpAnyH_take (i := 19) (oi := _) (v := _) ?hit28 ?hst28 ?hft28 ?hrt28 ?hQt28 ?hyt28 ?hSt28 ?_
                  case hit28 => (simp only [List.getElem?_toArray, List.getElem?_cons_succ, List.getElem?_cons_zero]; rfl)
                  case hst28 => kernel_rfl
                  case hft28 => kernel_rfl
                  case hrt28 => kernel_rfl
                  case hQt28 => exact fun _ _ _ h => h
                  case hSt28 => assumption
                  case hyt28 =>
                    refine Or.inl ⟨by rfl, ?_⟩
                    intro w hSw
                    (try dsimp only at hSw)
                    go_simp
                    all_goals (with_reducible rfl)
                  (try simp only [Act.put, List.setIfInBounds_toArray, List.set_cons_zero, List.set_cons_succ])
                  refine' wpAnyH_take (i := 20) (oi := _) (v := _) ?hit29 ?hst29 ?hft29 ?hrt29 ?hQt29 ?hyt29 ?hSt29 ?_
                  case hit29 => (simp only [List.getElem?_toArray, List.getElem?_cons_succ, List.getElem?_cons_zero]; rfl)
                  case hst29 => kernel_rfl
                  case hft29 => kernel_rfl
                  case hrt29 => kernel_rfl
                  case hQt29 => exact fun _ _ _ h => h
                  case hSt29 => assumption
                  case hyt29 =>
                    refine Or.inl ⟨by rfl, ?_⟩
                    intro w hSw
                    (try dsimp only at hSw)
                    go_simp
                    all_goals (with_reducible rfl)
                  (try simp only [Act.put, List.setIfInBounds_toArray, List.set_cons_zero, List.set_cons_succ])
                  refine' wpAnyH_take (i := 21) (oi := _) (v := .agg cu0) ?hit30 ?hst30 ?hft30 ?hrt30 ?hQt30 ?hyt30 ?hSt30 ?_
                  case hit30 => (simp only [List.getElem?_toArray, List.getElem?_cons_succ, List.getElem?_cons_zero]; rfl)
                  case hst30 => kernel_rfl
                  case hft30 => kernel_rfl
                  case hrt30 => kernel_rfl
                  case hQt30 => exact fun _ _ _ h => h
                  case hSt30 => assumption
                  case hyt30 =>
                    refine Or.inl ⟨by rfl, ?_⟩
                    intro W hS
                    exact quiet_load_row 30 (.tmp 7) _ rfl 30 cu0 _ (E0.out.old hS) Tryd.underlying30 rfl ou0.out.1 rfl
                  (try simp only [Act.put, List.setIfInBounds_toArray, List.set_cons_zero, List.set_cons_succ])
                  refine' wpAnyH_take (i := 22) (oi := _) (v := .agg cz) ?hit31 ?hst31 ?hft31 ?hrt31 ?hQt31 ?hyt31 ?hSt31 ?_
                  case hit31 => (simp only [List.getElem?_toArray, List.getElem?_cons_succ, List.getElem?_cons_zero]; rfl)
                  case hst31 => kernel_rfl
                  case hft31 => kernel_rfl
                  case hrt31 => kernel_rfl
                  case hQt31 => exact fun _ _ _ h => h
                  case hSt31 => assumption
                  case hyt31 =>
                    refine Or.inl ⟨by rfl, ?_⟩
                    intro W hS
                    exact quiet_load_row 30 (.tmp 16) _ rfl 30 cz _ (EZ.out.old hS) Tryd.underlying30 rfl OZ.out.1 rfl
                  (try simp only [Act.put, List.setIfInBounds_toArray, List.set_cons_zero, List.set_cons_succ])
                  refine' wpAnyH_take (i := 24) (oi := _) (v := .agg cu0) ?hit32 ?hst32 ?hft32 ?hrt32 ?hQt32 ?hyt32 ?hSt32 ?_
                  case hit32 => (simp only [List.getElem?_toArray, List.getElem?_cons_succ, List.getElem?_cons_zero]; rfl)
                  case hst32 => kernel_rfl
                  case hft32 => kernel_rfl
                  case hrt32 => kernel_rfl
                  case hQt32 => exact fun _ _ _ h => h
                  case hSt32 => assumption
                  case hyt32 =>
                    refine Or.inl ⟨by rfl, ?_⟩
                    intro W hS
                    exact quiet_load_row 30 (.tmp 7) _ rfl 30 cu0 _ (E0.out.old hS) Tryd.underlying30 rfl ou0.out.1 rfl
                  (try simp only [Act.put, List.setIfInBounds_toArray, List.set_cons_zero, List.set_cons_succ])
                  refine wpAnyH_ready (rs := [23]) (by kernel_rfl) (by simp) ?_
                  refine' (AllReadyH.cons (o := _) ?hir33_23 (fun K hK => ?br33_23) AllReadyH.nil)
                  case hir33_23 => (simp only [List.getElem?_toArray, List.getElem?_cons_succ, List.getElem?_cons_zero]; rfl)
                  case br33_23 =>
                    go_simp
                    refine (H.add _ PU0.out PZ.out (H.old (H.old HQ.out HB.out) H27.out)).mono ?_
                    rintro e w34 ⟨c70, rfl, hp34, hb34⟩
                    have P70 := Lib.hid hp34
                    have H34 := Lib.hid (H27.out.trans (hb34.mono H27.out.size))
                    clear hp34 hb34
                    go_wp2_with fail
                    refine hK.out _ _ ?_ (fun hHeld => ?_)
                    exact H34.out
                    clear hK K
                    (try simp only [Act.put, List.setIfInBounds_toArray, List.set_cons_zero, List.set_cons_succ])
                    refine wpAnyH_ready (rs := [25]) (by kernel_rfl) (by simp) ?_
                    refine' (AllReadyH.cons (o := _) ?hir35_25 (fun K hK => ?br35_25) AllReadyH.nil)
                    case hir35_25 => (simp only [List.getElem?_toArray, List.getElem?_cons_succ, List.getElem?_cons_zero]; rfl)
                    case br35_25 =>
                      go_simp
                      refine (sameT H (padd_zero _) _ P70.out PU0.out (H.old (H.old HQ.out HB.out) H34.out)).mono ?_
                      rintro e w36 ⟨rfl, hb36⟩
                      have H36 := Lib.hid (H34.out.trans (hb36.mono H34.out.size))
                      clear hb36
                      go_wp2_with fail
                      refine hK.out _ _ ?_ (fun hHeld => ?_)
                      exact H36.out
                      clear hK K
                      (try simp only [Act.put, List.setIfInBounds_toArray, List.set_cons_zero, List.set_cons_succ])
                      refine' wpAnyH_take (i := 26) (oi := _) (v := _) ?hit37 ?hst37 ?hft37 ?hrt37 ?hQt37 ?hyt37 ?hSt37 ?_
                      case hit37 => (simp only [List.getElem?_toArray, List.getElem?_cons_succ, List.getElem?_cons_zero]; rfl)
                      case hst37 => kernel_rfl
                      case hft37 => kernel_rfl
                      case hrt37 => kernel_rfl
                      case hQt37 => exact fun _ _ _ h => h
                      case hSt37 => assumption
                      case hyt37 =>
                        refine Or.inl ⟨by rfl, ?_⟩
                        intro w hSw
                        (try dsimp only at hSw)
                        go_simp
                        all_goals (with_reducible rfl)
                      (try simp only [Act.put, List.setIfInBounds_toArray, List.set_cons_zero, List.set_cons_succ])
                      refine' wpAnyH_take (i := 27) (oi := _) (v := _) ?hit38 ?hst38 ?hft38 ?hrt38 ?hQt38 ?hyt38 ?hSt38 ?_
                      case hit38 => (simp only [List.getElem?_toArray, List.getElem?_cons_succ, List.getElem?_cons_zero]; rfl)
                      case hst38 => kernel_rfl
                      case hft38 => kernel_rfl
                      case hrt38 => kernel_rfl
                      case hQt38 => exact fun _ _ _ h => h
                      case hSt38 => assumption
                      case hyt38 =>
                        refine Or.inl ⟨by rfl, ?_⟩
                        intro w hSw
                        (try dsimp only at hSw)
                        go_simp
                        all_goals (with_reducible rfl)
                      (try simp only [Act.put, List.setIfInBounds_toArray, List.set_cons_zero, List.set_cons_succ])
                      refine' wpAnyH_take (i := 28) (oi := _) (v := .agg cu0) ?hit39 ?hst39 ?hft39 ?hrt39 ?hQt39 ?hyt39 ?hSt39 ?_
                      case hit39 => (simp only [List.getElem?_toArray, List.getElem?_cons_succ, List.getElem?_cons_zero]; rfl)
                      case hst39 => kernel_rfl
                      case hft39 => kernel_rfl
                      case hrt39 => kernel_rfl
                      case hQt39 => exact fun _ _ _ h => h
                      case hSt39 => assumption
                      case hyt39 =>
                        refine Or.inl ⟨by rfl, ?_⟩
                        intro W hS
                        exact quiet_load_row 30 (.tmp 7) _ rfl 30 cu0 _ (E0.out.old hS) Tryd.underlying30 rfl ou0.out.1 rfl
                      (try simp only [Act.put, List.setIfInBounds_toArray, List.set_cons_zero, List.set_cons_succ])
                      refine' wpAnyH_take (i := 29) (oi := _) (v := .agg cu0) ?hit40 ?hst40 ?hft40 ?hrt40 ?hQt40 ?hyt40 ?hSt40 ?_
                      case hit40 => (simp only [List.getElem?_toArray, List.getElem?_cons_succ, List.getElem?_cons_zero]; rfl)
                      case hst40 => kernel_rfl
                      case hft40 => kernel_rfl
                      case hrt40 => kernel_rfl
                      case hQt40 => exact fun _ _ _ h => h
                      case hSt40 => assumption
                      case hyt40 =>
                        refine Or.inl ⟨by rfl, ?_⟩
                        intro W hS
                        exact quiet_load_row 30 (.tmp 7) _ rfl 30 cu0 _ (E0.out.old hS) Tryd.underlying30 rfl ou0.out.1 rfl
                      (try simp only [Act.put, List.setIfInBounds_toArray, List.set_cons_zero, List.set_cons_succ])
                      refine' wpAnyH_take (i := 32) (oi := _) (v := .agg cz) ?hit41 ?hst41 ?hft41 ?hrt41 ?hQt41 ?hyt41 ?hSt41 ?_
                      case hit41 => (simp only [List.getElem?_toArray, List.getElem?_cons_succ, List.getElem?_cons_zero]; rfl)
                      case hst41 => kernel_rfl
                      case hft41 => kernel_rfl
                      case hrt41 => kernel_rfl
                      case hQt41 => exact fun _ _ _ h => h
                      case hSt41 => assumption
                      case hyt41 =>
                        refine Or.inl ⟨by rfl, ?_⟩
                        intro W hS
                        exact quiet_load_row 30 (.tmp 16) _ rfl 30 cz _ (EZ.out.old hS) Tryd.underlying30 rfl OZ.out.1 rfl
                      (try simp only [Act.put, List.setIfInBounds_toArray, List.set_cons_zero, List.set_cons_succ])
                      refine wpAnyH_ready (rs := [30]) (by kernel_rfl) (by simp) ?_
                      refine' (AllReadyH.cons (o := _) ?hir42_30 (fun K hK => ?br42_30) AllReadyH.nil)
                      case hir42_30 => (simp only [List.getElem?_toArray, List.getElem?_cons_succ, List.getElem?_cons_zero]; rfl)
                      case br42_30 =>
                        go_simp
                        refine (H.neg _ PU0.out (H.old (H.old HQ.out HB.out) H36.out)).mono ?_
                        rintro e w43 ⟨c77, rfl, hp43, hb43⟩
                        have P77 := Lib.hid hp43
                        have H43 := Lib.hid (H36.out.trans (hb43.mono H36.out.size))
                        clear hp43 hb43
                        go_wp2_with fail
                        refine hK.out _ _ ?_ (fun hHeld => ?_)
                        exact H43.out
                        clear hK K
                        (try simp only [Act.put, List.setIfInBounds_toArray, List.set_cons_zero, List.set_cons_succ])
                        refine wpAnyH_ready (rs := [31]) (by kernel_rfl) (by simp) ?_
                        refine' (AllReadyH.cons (o := _) ?hir44_31 (fun K hK => ?br44_31) AllReadyH.nil)
                        case hir44_31 => (simp only [List.getElem?_toArray, List.getElem?_cons_succ, List.getElem?_cons_zero]; rfl)
                        case br44_31 =>
                          go_simp
                          refine (H.add _ PU0.out P77.out (H.old (H.old HQ.out HB.out) H43.out)).mono ?_
                          rintro e w45 ⟨c78, rfl, hp45, hb45⟩
                          have P78 := Lib.hid hp45
                          have H45 := Lib.hid (H43.out.trans (hb45.mono H43.out.size))
                          clear hp45 hb45
                          go_wp2_with fail
                          refine hK.out _ _ ?_ (fun hHeld => ?_)
                          exact H45.out
                          clear hK K
                          (try simp only [Act.put, List.setIfInBounds_toArray, List.set_cons_zero, List.set_cons_succ])
                          refine wpAnyH_ready (rs := [33]) (by kernel_rfl) (by simp) ?_
                          refine' (AllReadyH.cons (o := _) ?hir46_33 (fun K hK => ?br46_33) AllReadyH.nil)
                          case hir46_33 => (simp only [List.getElem?_toArray, List.getElem?_cons_succ, List.getElem?_cons_zero]; rfl)
                          case br46_33 =>
                            go_simp
                            refine (sameT H (padd_neg _) _ P78.out PZ.out (H.old (H.old HQ.out HB.out) H45.out)).mono ?_
                            rintro e w47 ⟨rfl, hb47⟩
                            have H47 := Lib.hid (H45.out.trans (hb47.mono H45.out.size))
                            clear hb47
                            go_wp2_with fail
                            refine hK.out _ _ ?_ (fun hHeld => ?_)
                            exact H47.out
                            clear hK K
                            (try simp only [Act.put, List.setIfInBounds_toArray, List.set_cons_zero, List.set_cons_succ])
                            refine' wpAnyH_take (i := 34) (oi := _) (v := _) ?hit48 ?hst48 ?hft48 ?hrt48 ?hQt48 ?hyt48 ?hSt48 ?_
                            case hit48 => (simp only [List.getElem?_toArray, List.getElem?_cons_succ, List.getElem?_cons_zero]; rfl)
                            case hst48 => kernel_rfl
                            case hft48 => kernel_rfl
                            case hrt48 => kernel_rfl
                            case hQt48 => exact fun _ _ _ h => h
                            case hSt48 => assumption
                            case hyt48 =>
                              refine Or.inl ⟨by rfl, ?_⟩
                              intro w hSw
                              (try dsimp only at hSw)
                              go_simp
                              all_goals (with_reducible rfl)
                            (try simp only [Act.put, List.setIfInBounds_toArray, List.set_cons_zero, List.set_cons_succ])
                            refine' wpAnyH_take (i := 35) (oi := _) (v := _) ?hit49 ?hst49 ?hft49 ?hrt49 ?hQt49 ?hyt49 ?hSt49 ?_
                            case hit49 => (simp only [List.getElem?_toArray, List.getElem?_cons_succ, List.getElem?_cons_zero]; rfl)
                            case hst49 => kernel_rfl
                            case hft49 => kernel_rfl
                            case hrt49 => kernel_rfl
                            case hQt49 => exact fun _ _ _ h => h
                            case hSt49 => assumption
                            case hyt49 =>
                              refine Or.inl ⟨by rfl, ?_⟩
                              intro w hSw
                              (try dsimp only at hSw)
                              go_simp
                              all_goals (with_reducible rfl)
                            (try simp only [Act.put, List.setIfInBounds_toArray, List.set_cons_zero, List.set_cons_succ])
                            refine wpAnyH_ready (rs := [36]) (by kernel_rfl) (by simp) ?_
                            refine' (AllReadyH.cons (o := _) ?hir50_36 (fun K hK => ?br50_36) AllReadyH.nil)
                            case hir50_36 => (simp only [List.getElem?_toArray, List.getElem?_cons_succ, List.getElem?_cons_zero]; rfl)
                            case br50_36 =>
                              go_simp
                              refine (awake7_any H _ (H.old (H.old HQ.out HB.out) H47.out)).mono ?_
                              rintro e w51 ⟨rfl, hb51⟩
                              have H51 := Lib.hid (H47.out.trans (hb51.mono H47.out.size))
                              clear hb51
                              go_wp2_with fail
                              refine hK.out _ _ ?_ (fun hHeld => ?_)
                              exact H51.out
                              clear hK K
                              (try simp only [Act.put, List.setIfInBounds_toArray, List.set_cons_zero, List.set_cons_succ])
                              refine' wpAnyH_take (i := 37) (oi := _) (v := _) ?hit52 ?hst52 ?hft52 ?hrt52 ?hQt52 ?hyt52 ?hSt52 ?_
                              case hit52 => (simp only [List.getElem?_toArray, List.getElem?_cons_succ, List.getElem?_cons_zero]; rfl)
                              case hst52 => kernel_rfl
                              case hft52 => kernel_rfl
                              case hrt52 => kernel_rfl
                              case hQt52 => exact fun _ _ _ h => h
                              case hSt52 => assumption
                              case hyt52 =>
                                refine Or.inl ⟨by rfl, ?_⟩
                                intro w hSw
                                (try dsimp only at hSw)
                                go_simp
                                all_goals (with_reducible rfl)
                              (try simp only [Act.put, List.setIfInBounds_toArray, List.set_cons_zero, List.set_cons_succ])
                              refine' wpAnyH_take (i := 38) (oi := _) (v := _) ?hit53 ?hst53 ?hft53 ?hrt53 ?hQt53 ?hyt53 ?hSt53 ?_
                              case hit53 => (simp only [List.getElem?_toArray, List.getElem?_cons_succ, List.getElem?_cons_zero]; rfl)
                              case hst53 => kernel_rfl
                              case hft53 => kernel_rfl
                              case hrt53 => kernel_rfl
                              case hQt53 => exact fun _ _ _ h => h
                              case hSt53 => assumption
                              case hyt53 =>
                                refine Or.inl ⟨by rfl, ?_⟩
                                intro w hSw
                                (try dsimp only at hSw)
                                go_simp
                                all_goals (with_reducible rfl)
                              (try simp only [Act.put, List.setIfInBounds_toArray, List.set_cons_zero, List.set_cons_succ])
                              refine wpAnyH_done (by kernel_rfl) ?_ _
                              have hbe := Lib.hid (HB.out.trans (H51.out.mono HB.out.size))
                              clear hHeld
                              go_wp2_with fail
                              go_ret
                              exact ⟨rfl, hbe.out⟩
end Go.Proofs.YtjiadbaaggifpaaDoor
end

section
set_option linter.unusedVariables false
namespace F5

section
variable {n : Nat} [NeZero n]
theorem gp_ux {x1 y1 z1 x2 y2 z2 d a b : Fin n} (h : b * d = 0 - a) : z1 * z2 * b * (z1 * z2) - x1 * z1 * (x2 * z2) * (y1 * z1 * (y2 * z2)) * a = (b * ((z1 * z2) * (z1 * z2))) * (1 + d * (x1 * x2 * y1 * y2)) := by grind
theorem gp_uy {x1 y1 z1 x2 y2 z2 d a b : Fin n} (h : b * d = 0 - a) : z1 * z2 * b * (z1 * z2) + x1 * z1 * (x2 * z2) * (y1 * z1 * (y2 * z2)) * a = (b * ((z1 * z2) * (z1 * z2))) * (1 - d * (x1 * x2 * y1 * y2)) := by grind
theorem gp_cr (x1 y1 z1 x2 y2 z2 b : Fin n) : z1 * z2 * b * (x1 * z1 * (y2 * z2) + y1 * z1 * (x2 * z2)) = (b * ((z1 * z2) * (z1 * z2))) * (x1 * y2 + x2 * y1) := by grind
theorem gp_cy (x1 y1 z1 x2 y2 z2 b : Fin n) : z1 * z2 * b * (y1 * z1 * (y2 * z2) + x1 * z1 * (x2 * z2)) = (b * ((z1 * z2) * (z1 * z2))) * (y1 * y2 + x1 * x2) := by grind
theorem gp_X {k s D u t : Fin n} (h : D * u = 1) : k * s * t = (s * u) * ((k * D) * t) := by grind
theorem gp_Y {k s D u t : Fin n} (h : D * u = 1) : k * s * t = (s * u) * (t * (k * D)) := by grind
theorem gp_dx {x y z d : Fin n} (h : y * y - x * x = 1 + d * (x * x) * (y * y)) : y * z * (y * z) - x * z * (x * z) = (z * z) * (1 + d * (x * x * y * y)) := by grind
theorem gp_dy {x y z d : Fin n} (h : y * y - x * x = 1 + d * (x * x) * (y * y)) : z * z + z * z - (z * z) * (1 + d * (x * x * y * y)) = (z * z) * (1 - d * (x * x * y * y)) := by grind
theorem gp_dcx (x y z : Fin n) : x * z * (y * z) + x * z * (y * z) = (z * z) * (x * y + x * y) := by grind
theorem gp_dcy (x y z : Fin n) : y * z * (y * z) + x * z * (x * z) = (z * z) * (y * y + x * x) := by grind
theorem gp_down {y d a b : Fin n} (h : b * d = 0 - a) : b - y * y * a = b * (d * (y * y) + 1) := by grind
theorem gp_sq {c b D f g : Fin n} (h1 : b * D * f = 1) (h2 : D * g = 1) : c * b * f = c * g := by grind
theorem gp_same {x1 x2 z1 z2 : Fin n} : x1 * z1 * z2 = x1 * (z1 * z2) := by grind
theorem gp_same2 {x1 x2 z1 z2 : Fin n} : x2 * z2 * z1 = x2 * (z1 * z2) := by grind
end

/-- the numbers above and below. -/
def aF : Fp := ⟨121665, by decide⟩
def bF : Fp := ⟨121666, by decide⟩
theorem bF_dE : bF * dE = 0 - aF := by decide +kernel
theorem bF_ne : bF ≠ 0 := by decide

theorem rep_addP {p q : Pt} {X1 Y1 Z1 X2 Y2 Z2 xx yy zz c1 c2 cr mo on ab pa ux uy m1 r1 s1 m2 r2 r3 : Fp} (hp : Rep p X1 Y1 Z1) (hq : Rep q X2 Y2 Z2)
    (hxx : X1 * X2 = xx) (hyy : Y1 * Y2 = yy) (hzz : Z1 * Z2 = zz) (hc1 : X1 * Y2 = c1) (hc2 : Y1 * X2 = c2) (hcr : c1 + c2 = cr) (hmo : zz * bF = mo) (hon : mo * zz = on) (hab : xx * yy = ab) (hpa : ab * aF = pa)
    (hux : on - pa = ux) (huy : on + pa = uy) (hm1 : mo * cr = m1) (h1 : m1 * uy = r1) (hs1 : yy + xx = s1) (hm2 : mo * s1 = m2) (h2 : m2 * ux = r2) (h3 : ux * uy = r3) : Rep (padd p q) r1 r2 r3 := by
  subst hxx hyy hzz hc1 hc2 hcr hmo hon hab hpa
  obtain ⟨n1, rfl, rfl⟩ := hp
  obtain ⟨n2, rfl, rfl⟩ := hq
  have hz := fp_ne bF_ne (fp_ne (fp_ne n1 n2) (fp_ne n1 n2))
  rw [gp_ux bF_dE] at hux
  rw [gp_uy bF_dE] at huy
  subst hm1 hs1 hm2 hux huy h1 h2 h3
  refine ⟨fp_ne (fp_ne hz (den1 p.on q.on)) (fp_ne hz (den2 p.on q.on)), ?_, ?_⟩
  · rw [gp_cr]; exact gp_X (mul_finv (den1 p.on q.on))
  · rw [gp_cy]; exact gp_Y (mul_finv (den2 p.on q.on))
theorem rep_twice {p : Pt} {X Y Z xx yy zz cr ux z2 uy c2 r1 s1 r2 r3 : Fp} (hp : Rep p X Y Z) (hxx : X * X = xx) (hyy : Y * Y = yy) (hzz : Z * Z = zz) (hcr : X * Y = cr) (hux : yy - xx = ux) (hz2 : zz + zz = z2) (huy : z2 - ux = uy)
    (hc2 : cr + cr = c2) (h1 : c2 * uy = r1) (hs1 : yy + xx = s1) (h2 : s1 * ux = r2) (h3 : ux * uy = r3) : Rep (padd p p) r1 r2 r3 := by
  subst hxx hyy hzz hcr hz2
  obtain ⟨n1, rfl, rfl⟩ := hp
  rw [gp_dx p.on] at hux
  subst hux
  rw [gp_dy p.on] at huy
  have hz := fp_ne n1 n1
  subst huy hc2 h1 hs1 h2 h3
  refine ⟨fp_ne (fp_ne hz (den1 p.on p.on)) (fp_ne hz (den2 p.on p.on)), ?_, ?_⟩
  · rw [gp_dcx]; exact gp_X (mul_finv (den1 p.on p.on))
  · rw [gp_dcy]; exact gp_Y (mul_finv (den2 p.on p.on))
theorem xsq_prog {y sq s1 up sa dn f r one : Fp} (h1 : one = 1) (hsq : y * y = sq) (hs1 : sq - one = s1) (hup : s1 * bF = up) (hsa : sq * aF = sa) (hdn : bF - sa = dn) (hf : finv dn = f) (hr : up * f = r) : xsq y = r := by
  subst h1 hsq hs1 hup hsa
  rw [gp_down bF_dE] at hdn
  subst hdn hf hr
  exact (gp_sq (mul_finv (fp_ne bF_ne (over_ne y))) (mul_finv (over_ne y))).symm
theorem same_iff {p q : Pt} {X1 Y1 Z1 X2 Y2 Z2 : Fp} (hp : Rep p X1 Y1 Z1) (hq : Rep q X2 Y2 Z2) : (X1 * Z2 = X2 * Z1 ∧ Y1 * Z2 = Y2 * Z1) ↔ p = q := by
  obtain ⟨n1, rfl, rfl⟩ := hp
  obtain ⟨n2, rfl, rfl⟩ := hq
  have hz := fp_ne n1 n2
  rw [gp_same (x2 := q.x), gp_same2 (x1 := p.x), gp_same (x2 := q.y), gp_same2 (x1 := p.y)]
  constructor
  · rintro ⟨h1, h2⟩; exact Pt.ext' (fp_cancel hz h1) (fp_cancel hz h2)
  · rintro rfl; exact ⟨rfl, rfl⟩
/-- doubled n times. -/
theorem pmul_double (n : Nat) (p : Pt) : padd (pmul (2 ^ n) p) (pmul (2 ^ n) p) = pmul (2 ^ (n + 1)) p := by
  rw [← pmul_add, Nat.pow_succ, Nat.mul_two]
theorem pmul_dbl (k : Nat) (p : Pt) : padd (pmul k p) (pmul k p) = pmul (2 * k) p := by rw [← pmul_add, Nat.two_mul]
end F5
end

section
set_option linter.unusedVariables false
set_option linter.unusedSimpArgs false
namespace Go.Proofs.YtjiadbaaggifpaaDoor
open Go Go.Proofs Go.RowKit F5

def cE (a : Fp) : Array Value := limA a.val
theorem cE_size (a : Fp) : (cE a).size = 4 := limA_size _
theorem cE_ok (a : Fp) : (Tryd.prog.info? 28).map (·.size) = some (cE a).size ∧ (cE a).all (·.oneCell') = true := ⟨limA_infoE _, limA_one _⟩
theorem cE_sz (a b : Fp) : (cE a).size = (cE b).size := by rw [cE_size, cE_size]
theorem cE_info (a : Fp) : (Tryd.prog.info? 26).map (·.size) = some (cE a).size := limA_info _
theorem eOf (n : Nat) (hn : n < P) (hm : n < M) (a : Fp) (h : a.val = n) (i : Int) (hi : i = n) (w : World) : Calls Tryd.prog 31 #[.int .u64 i] w fun e w' => e = .returned (.agg (cE a)) ∧ Below w.heap.size w w' := by
  subst hi
  rw [cE, h]
  exact of_any n hm w
theorem eMul (a b : Fp) (w : World) (hP : PrimeAt w) : Calls Tryd.prog 38 #[.agg (cE a), .agg (cE b)] w fun e w' => e = .returned (.agg (cE (a * b))) ∧ Below w.heap.size w w' := by
  have := mul_e a.val b.val a.isLt b.isLt w hP
  rwa [← fp_mul] at this
theorem eAdd (a b : Fp) (w : World) (hP : PrimeAt w) : Calls Tryd.prog 42 #[.agg (cE a), .agg (cE b)] w fun e w' => e = .returned (.agg (cE (a + b))) ∧ Below w.heap.size w w' := by
  have := add_e a.val b.val a.isLt b.isLt w hP
  rwa [← fp_add] at this
theorem eSub (a b : Fp) (w : World) (hP : PrimeAt w) : Calls Tryd.prog 43 #[.agg (cE a), .agg (cE b)] w fun e w' => e = .returned (.agg (cE (a - b))) ∧ Below w.heap.size w w' := by
  have := sub_e a.val b.val a.isLt b.isLt w hP
  rwa [show (a.val + P - b.val) % P = (a - b).val by rw [Fin.sub_def]; show _ = (P - b.val + a.val) % P; congr 1; have := b.isLt; omega] at this
theorem eInv (a : Fp) (w : World) (hP : PrimeAt w) : Calls Tryd.prog 37 #[.agg (cE a)] w fun e w' => e = .returned (.agg (cE (finv a))) ∧ Below w.heap.size w w' := inv_e a.val w a.isLt hP
theorem eRoot (a : Fp) (w : World) (hP : PrimeAt w) (hT : TurnAt w) : Calls Tryd.prog 58 #[.agg (cE a)] w fun e w' => e = .returned (.tuple #[.agg (cE (rootF a)), .bool (decide (hasRoot a.val))]) ∧ Below w.heap.size w w' := root_e a.val w a.isLt hP hT
theorem eSame (a b : Fp) (w : World) : Calls Tryd.prog 30 #[.agg (cE a), .agg (cE b)] w fun e w' => e = .returned (.bool (decide (a = b))) ∧ Below w.heap.size w w' := by
  have := same_e a.val b.val a.isLt b.isLt w
  rwa [decide_eq_decide.2 (show a.val = b.val ↔ a = b from ⟨fp_ext, fun h => by rw [h]⟩)] at this
theorem eOdd (a : Fp) (w : World) : Calls Tryd.prog 40 #[.agg (cE a)] w fun e w' => e = .returned (.bool (decide (a.val % 2 = 1))) ∧ Below w.heap.size w w' := odd_e a.val w
theorem eBytes (a : Fp) (w : World) : Calls Tryd.prog 39 #[.agg (cE a)] w fun e w' => e = .returned (.agg (bytesA (fbytes a.val))) ∧ Below w.heap.size w w' := bytes_e a.val w
theorem cE_zero : cE 0 = #[.int .u64 0, .int .u64 0, .int .u64 0, .int .u64 0] := rfl
theorem zeroE (W : World) : (zeroValue 28).run Tryd.prog W = .ok (.agg (cE 0)) W := by
  rw [cE_zero]; kernel_rfl

/-! Points. -/
def uV (x y z : Fp) : Array Value := cE x ++ cE y ++ cE z
theorem uV_size (x y z : Fp) : (uV x y z).size = 12 := by simp [uV, cE_size]
theorem uV_info (x y z : Fp) : (Tryd.prog.info? 30).map (·.size) = some (uV x y z).size := by rw [uV_size]; kernel_rfl
theorem uV_one (x y z : Fp) : (uV x y z).all (·.oneCell') = true := by
  unfold uV
  rw [Array.all_append, Array.all_append, (cE_ok x).2, (cE_ok y).2, (cE_ok z).2]; rfl
theorem uV_sz (x y z x' y' z' : Fp) : (uV x y z).size = (uV x' y' z').size := by rw [uV_size, uV_size]
theorem uV_ok (x y z : Fp) : (Tryd.prog.info? 30).map (·.size) = some (uV x y z).size ∧ (uV x y z).all (·.oneCell') = true ∧ (uV 0 0 0).size = (uV x y z).size := ⟨uV_info _ _ _, uV_one _ _ _, uV_sz _ _ _ _ _ _⟩
theorem zeroU (W : World) : (zeroValue 30).run Tryd.prog W = .ok (.agg (uV 0 0 0)) W := by
  rw [show uV 0 0 0 = cE 0 ++ cE 0 ++ cE 0 from rfl, cE_zero]; kernel_rfl
theorem built_U (x y z : Fp) : Tryd.prog.built 30 [(0, .agg (cE x)), (1, .agg (cE y)), (2, .agg (cE z))] = some (uV x y z) := by kernel_rfl
theorem built_nilU : Tryd.prog.built 30 [] = some (uV 0 0 0) := by
  rw [show uV 0 0 0 = cE 0 ++ cE 0 ++ cE 0 from rfl, cE_zero]; kernel_rfl
theorem uV_cell_x {w : World} {g T : Nat} {x y z : Fp} (h : Blk w g T (uV x y z)) (j : Nat) (v : Value) (hj : (cE x)[j]? = some v) : w.cell? ⟨g, 0 + j, none⟩ = some v := by
  have hl : j < 4 := by rw [← cE_size x]; exact (Array.getElem?_eq_some_iff.1 hj).1
  rw [h.cell, ← hj, uV, Nat.zero_add, Array.getElem?_append_left (by simp [cE_size]; omega), Array.getElem?_append_left (by rw [cE_size]; exact hl)]
theorem uV_cell_y {w : World} {g T : Nat} {x y z : Fp} (h : Blk w g T (uV x y z)) (j : Nat) (v : Value) (hj : (cE y)[j]? = some v) : w.cell? ⟨g, 4 + j, none⟩ = some v := by
  have hl : j < 4 := by rw [← cE_size y]; exact (Array.getElem?_eq_some_iff.1 hj).1
  rw [h.cell, ← hj, uV, Array.getElem?_append_left (by simp [cE_size]; omega), Array.getElem?_append_right (by rw [cE_size]; omega), cE_size, Nat.add_sub_cancel_left]
theorem uV_cell_z {w : World} {g T : Nat} {x y z : Fp} (h : Blk w g T (uV x y z)) (j : Nat) (v : Value) (hj : (cE z)[j]? = some v) : w.cell? ⟨g, 8 + j, none⟩ = some v := by
  rw [h.cell, ← hj, uV, Array.getElem?_append_right (by simp [cE_size])]
  simp [cE_size]
/-- These cells stand for a point. -/
def PU (p : Pt) (c : Array Value) : Prop := ∃ X Y Z, Rep p X Y Z ∧ c = uV X Y Z
theorem PU.ok {p : Pt} {c : Array Value} (h : PU p c) : (Tryd.prog.info? 30).map (·.size) = some c.size ∧ c.all (·.oneCell') = true ∧ (uV 0 0 0).size = c.size := by
  obtain ⟨X, Y, Z, _, rfl⟩ := h
  exact uV_ok _ _ _
end Go.Proofs.YtjiadbaaggifpaaDoor
end
