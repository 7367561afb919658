/-
  Several texts in one: PtAdd, PtTimes, PtSum, PtBytes, PtGet, EdRef1, EdRef2, EdRef3, EdPrM, Sched. Conditions: those that each theorem states.
-/
import Derived.Test.YtcfogpeinjehbaaGreatDoorM3
import Derived.Deep.DeepCutAuto
import Derived.Deep.CutBlock
set_option linter.unusedVariables false
set_option linter.unusedSimpArgs false
open Go.Lib (hid)
open Go.Proofs.YtcfogpeinjehbaaGreatDoor (zA zB zC zD zE zF)

section
namespace Go.Proofs.YtcfogpeinjehbaaGreatDoor
open Go Go.Proofs Go.RowKit F5
theorem four_new (w : World) (a b c d : Array Value) (T1 T2 T3 T4 : TypeId) : Blk ((((w.alloc (.cells a T1)).alloc (.cells b T2)).alloc (.cells c T3)).alloc (.cells d T4)) w.heap.size T1 a ∧
  Blk ((((w.alloc (.cells a T1)).alloc (.cells b T2)).alloc (.cells c T3)).alloc (.cells d T4)) (w.heap.size + 1) T2 b ∧
  Blk ((((w.alloc (.cells a T1)).alloc (.cells b T2)).alloc (.cells c T3)).alloc (.cells d T4)) (w.heap.size + 1 + 1) T3 c ∧
  Blk ((((w.alloc (.cells a T1)).alloc (.cells b T2)).alloc (.cells c T3)).alloc (.cells d T4)) (w.heap.size + 1 + 1 + 1) T4 d ∧
  Below w.heap.size w ((((w.alloc (.cells a T1)).alloc (.cells b T2)).alloc (.cells c T3)).alloc (.cells d T4)) := by
 have s1 : (w.alloc (.cells a T1)).heap.size = w.heap.size + 1 := by simp
 have s2 : ((w.alloc (.cells a T1)).alloc (.cells b T2)).heap.size = w.heap.size + 1 + 1 := by simp
 have s3 : (((w.alloc (.cells a T1)).alloc (.cells b T2)).alloc (.cells c T3)).heap.size = w.heap.size + 1 + 1 + 1 := by simp
 refine ⟨(((Blk.new w _ a).alloc _).alloc _).alloc _, ?_, ?_, ?_, ((((Below.refl _ _).alloc (Nat.le_refl _) _).alloc (by simp) _).alloc (by simp; omega) _).alloc (by simp; omega) _⟩
 ·rw [← s1]; exact ((Blk.new _ _ b).alloc _).alloc _
 ·rw [← s2]; exact (Blk.new _ _ c).alloc _
 ·rw [← s3]; exact Blk.new _ _ d
set_option maxHeartbeats 2000000 in
set_option maxRecDepth 100000 in
theorem refAdd_P (x1 y1 z1 x2 y2 z2 d a b c e f g h k r1 r2 r3 : Fp) (ha : z1 * z2 = a) (hb : a * a = b) (hc : x1 * x2 = c) (he : y1 * y2 = e) (hf : d * c * e = f) (hg : b - f = g) (hh : b + f = h)
  (hk : (x1 + y1) * (x2 + y2) - c - e = k) (h1 : a * g * k = r1) (h2 : a * h * (e + c) = r2) (h3 : g * h = r3) (w : World) :
  Calls Tryz.prog 58 #[.agg (pV x1 y1 z1), .agg (pV x2 y2 z2), .agg (cF d)] w fun e w' => e = .returned (.agg (pV r1 r2 r3)) ∧ Below w.heap.size w w' := by
 have MUL (p q r : Fp) (h : p * q = r) : Hid (∀ V, Calls Tryz.prog 53 #[.agg (cF p), .agg (cF q)] V fun e w' => e = .returned (.agg (cF r)) ∧ Below V.heap.size V w') := hid fun V => by rw [← h]; exact rMul _ _ V
 have SUB (p q r : Fp) (h : p - q = r) : Hid (∀ V, Calls Tryz.prog 88 #[.agg (cF p), .agg (cF q)] V fun e w' => e = .returned (.agg (cF r)) ∧ Below V.heap.size V w') := hid fun V => by rw [← h]; exact rSub _ _ V
 have ADD (p q r : Fp) (h : p + q = r) : Hid (∀ V, Calls Tryz.prog 87 #[.agg (cF p), .agg (cF q)] V fun e w' => e = .returned (.agg (cF r)) ∧ Below V.heap.size V w') := hid fun V => by rw [← h]; exact rAdd _ _ V
 have C7 := MUL _ _ _ ha
 have C8 := MUL _ _ _ hb
 have C9 := MUL _ _ _ hc
 have C10 := MUL _ _ _ he
 have C11 := MUL _ _ _ hf
 have C12 := SUB _ _ _ hg
 have C13 := ADD _ _ _ hh
 have C14 := SUB _ _ _ hk
 have C63 := MUL _ _ _ h1
 have C70 := MUL _ _ _ h2
 have C73 := MUL _ _ _ h3
 clear MUL SUB ADD ha hb hc he hf hg hh hk h1 h2 h3
 obtain ⟨z, hz⟩ : ∃ z, Hid (z = pV 0 0 0) := ⟨_, hid rfl⟩
 have hz0 : ∀ W, (zeroValue 56).run Tryz.prog W = .ok (.agg z) W := by rw [hz.out]; exact zeroP
 obtain ⟨zf, hzf⟩ : ∃ z, Hid (z = cF 0) := ⟨_, hid rfl⟩
 have hzf0 : ∀ W, (zeroValue 54).run Tryz.prog W = .ok (.agg zf) W := by rw [hzf.out]; exact zeroF
 have of : Hid (∀ a : Fp, zf.size = (cF a).size) := hid (fun a => by rw [hzf.out]; exact cF_sz _ _)
 have hBu := hid (built_P r1 r2 r3)
 have ok := hid (pV_ok r1 r2 r3)
 rw [← hz.out] at ok
 generalize pV r1 r2 r3 = R at *
 have KX := hid (fun (V : World) g T (h : Blk V g T (pV x1 y1 z1)) => pV_x h)
 have KY := hid (fun (V : World) g T (h : Blk V g T (pV x1 y1 z1)) => pV_y h)
 have KZ := hid (fun (V : World) g T (h : Blk V g T (pV x1 y1 z1)) => pV_z h)
 generalize pV x1 y1 z1 = A at *
 have LX := hid (fun (V : World) g T (h : Blk V g T (pV x2 y2 z2)) => pV_x h)
 have LY := hid (fun (V : World) g T (h : Blk V g T (pV x2 y2 z2)) => pV_y h)
 have LZ := hid (fun (V : World) g T (h : Blk V g T (pV x2 y2 z2)) => pV_z h)
 generalize pV x2 y2 z2 = B at *
 obtain ⟨a1, a2, a3, a4, a5⟩ := four_new w A B (cF d) z 56 56 54 56
 clear hz hzf
 go_enter Tryz.func58, Tryz.ntmps58
 go_upto_region 1 with fail
 generalize (((w.alloc (.cells A 56)).alloc (.cells B 56)).alloc (.cells (cF d) 54)).alloc (.cells z 56) = W at *
 have A1 := hid a1
 have A2 := hid a2
 have D5 := hid a3
 have Z6 := hid a4
 have HB := hid a5
 clear a1 a2 a3 a4 a5
 (try simp only [Act.put, zA, zB, zC])
 have zlt : Hid (w.heap.size + 1 + 1 + 1 < W.heap.size) := hid Z6.out.lt
 go_upto_region 2 with (first | (refine wpList_load_at rfl 54 (.tmp 15) rfl w.heap.size 32 rfl 40 16 (cF z1) Tryz.underlying54 (cF_ok _).1 (KZ.out _ _ _ A1.out) ?_) | (refine wpList_load_at rfl 54 (.tmp 17) rfl (w.heap.size + 1) 32 rfl 40 16 (cF z2) Tryz.underlying54 (cF_ok _).1 (LZ.out _ _ _ A2.out) ?_))
 refine (C7.out _).mono ?_
 rintro e w1 ⟨rfl, hb⟩
 have A1 := hid ((A1.out.old hb).alloc (.cells (cF a) 54))
 have A2 := hid ((A2.out.old hb).alloc (.cells (cF a) 54))
 have D5 := hid ((D5.out.old hb).alloc (.cells (cF a) 54))
 have Z6 := hid ((Z6.out.old hb).alloc (.cells (cF a) 54))
 have HB := hid ((HB.out.trans (hb.mono HB.out.size)).alloc (HB.out.trans (hb.mono HB.out.size)).size (.cells (cF a) 54))
 have L7 : Hid (w.heap.size + 1 + 1 + 1 < w1.heap.size) := hid (Nat.lt_of_lt_of_le zlt.out hb.size)
 have X7 := hid (Blk.new w1 54 (cF a))
 clear hb
 go_upto_region 2 with (first | (refine wpList_store_row rfl 54 (.tmp 7) (.tmp 19) rfl w1.heap.size (cF a) rfl rfl 54 _ (heap_alloc_new w1 _) (cF_ok _).1 (of.out _) (cF_ok _).2 ?_; rw [setRow_alloc1]))
 generalize w1.alloc (.cells (cF a) 54) = W7 at *
 generalize w1.heap.size = g7 at *
 (try simp only [Act.put, zA, zB, zC])
 have zlt : Hid (w.heap.size + 1 + 1 + 1 < W7.heap.size) := hid Z6.out.lt
 go_upto_region 3 with (first | (refine wpList_load_row rfl 54 (.tmp 7) rfl g7 rfl 54 (cF a) (0, 0) _ X7.out Tryz.underlying54 rfl (cF_ok _).1 ?_))
 refine (C8.out _).mono ?_
 rintro e w2 ⟨rfl, hb⟩
 have A1 := hid ((A1.out.old hb).alloc (.cells (cF b) 54))
 have A2 := hid ((A2.out.old hb).alloc (.cells (cF b) 54))
 have D5 := hid ((D5.out.old hb).alloc (.cells (cF b) 54))
 have Z6 := hid ((Z6.out.old hb).alloc (.cells (cF b) 54))
 have X7 := hid ((X7.out.old hb).alloc (.cells (cF b) 54))
 have HB := hid ((HB.out.trans (hb.mono HB.out.size)).alloc (HB.out.trans (hb.mono HB.out.size)).size (.cells (cF b) 54))
 have L8 : Hid (w.heap.size + 1 + 1 + 1 < w2.heap.size) := hid (Nat.lt_of_lt_of_le zlt.out hb.size)
 have X8 := hid (Blk.new w2 54 (cF b))
 clear hb
 go_upto_region 3 with (first | (refine wpList_store_row rfl 54 (.tmp 8) (.tmp 22) rfl w2.heap.size (cF b) rfl rfl 54 _ (heap_alloc_new w2 _) (cF_ok _).1 (of.out _) (cF_ok _).2 ?_; rw [setRow_alloc1]))
 generalize w2.alloc (.cells (cF b) 54) = W8 at *
 generalize w2.heap.size = g8 at *
 (try simp only [Act.put, zA, zB, zC])
 have zlt : Hid (w.heap.size + 1 + 1 + 1 < W8.heap.size) := hid Z6.out.lt
 go_upto_region 4 with (first | (refine wpList_load_at rfl 54 (.tmp 23) rfl w.heap.size 0 rfl 40 16 (cF x1) Tryz.underlying54 (cF_ok _).1 (KX.out _ _ _ A1.out) ?_) | (refine wpList_load_at rfl 54 (.tmp 25) rfl (w.heap.size + 1) 0 rfl 40 16 (cF x2) Tryz.underlying54 (cF_ok _).1 (LX.out _ _ _ A2.out) ?_))
 refine (C9.out _).mono ?_
 rintro e w3 ⟨rfl, hb⟩
 have A1 := hid ((A1.out.old hb).alloc (.cells (cF c) 54))
 have A2 := hid ((A2.out.old hb).alloc (.cells (cF c) 54))
 have D5 := hid ((D5.out.old hb).alloc (.cells (cF c) 54))
 have Z6 := hid ((Z6.out.old hb).alloc (.cells (cF c) 54))
 have X7 := hid ((X7.out.old hb).alloc (.cells (cF c) 54))
 have X8 := hid ((X8.out.old hb).alloc (.cells (cF c) 54))
 have HB := hid ((HB.out.trans (hb.mono HB.out.size)).alloc (HB.out.trans (hb.mono HB.out.size)).size (.cells (cF c) 54))
 have L9 : Hid (w.heap.size + 1 + 1 + 1 < w3.heap.size) := hid (Nat.lt_of_lt_of_le zlt.out hb.size)
 have X9 := hid (Blk.new w3 54 (cF c))
 clear hb
 go_upto_region 4 with (first | (refine wpList_store_row rfl 54 (.tmp 9) (.tmp 27) rfl w3.heap.size (cF c) rfl rfl 54 _ (heap_alloc_new w3 _) (cF_ok _).1 (of.out _) (cF_ok _).2 ?_; rw [setRow_alloc1]))
 generalize w3.alloc (.cells (cF c) 54) = W9 at *
 generalize w3.heap.size = g9 at *
 (try simp only [Act.put, zA, zB, zC])
 have zlt : Hid (w.heap.size + 1 + 1 + 1 < W9.heap.size) := hid Z6.out.lt
 go_upto_region 5 with (first | (refine wpList_load_at rfl 54 (.tmp 28) rfl w.heap.size 16 rfl 40 16 (cF y1) Tryz.underlying54 (cF_ok _).1 (KY.out _ _ _ A1.out) ?_) | (refine wpList_load_at rfl 54 (.tmp 30) rfl (w.heap.size + 1) 16 rfl 40 16 (cF y2) Tryz.underlying54 (cF_ok _).1 (LY.out _ _ _ A2.out) ?_))
 refine (C10.out _).mono ?_
 rintro e w4 ⟨rfl, hb⟩
 have A1 := hid ((A1.out.old hb).alloc (.cells (cF e) 54))
 have A2 := hid ((A2.out.old hb).alloc (.cells (cF e) 54))
 have D5 := hid ((D5.out.old hb).alloc (.cells (cF e) 54))
 have Z6 := hid ((Z6.out.old hb).alloc (.cells (cF e) 54))
 have X7 := hid ((X7.out.old hb).alloc (.cells (cF e) 54))
 have X8 := hid ((X8.out.old hb).alloc (.cells (cF e) 54))
 have X9 := hid ((X9.out.old hb).alloc (.cells (cF e) 54))
 have HB := hid ((HB.out.trans (hb.mono HB.out.size)).alloc (HB.out.trans (hb.mono HB.out.size)).size (.cells (cF e) 54))
 have L10 : Hid (w.heap.size + 1 + 1 + 1 < w4.heap.size) := hid (Nat.lt_of_lt_of_le zlt.out hb.size)
 have X10 := hid (Blk.new w4 54 (cF e))
 clear hb
 go_upto_region 5 with (first | (refine wpList_store_row rfl 54 (.tmp 10) (.tmp 32) rfl w4.heap.size (cF e) rfl rfl 54 _ (heap_alloc_new w4 _) (cF_ok _).1 (of.out _) (cF_ok _).2 ?_; rw [setRow_alloc1]))
 generalize w4.alloc (.cells (cF e) 54) = W10 at *
 generalize w4.heap.size = g10 at *
 (try simp only [Act.put, zA, zB, zC])
 have zlt : Hid (w.heap.size + 1 + 1 + 1 < W10.heap.size) := hid Z6.out.lt
 go_cut [11] (fun v wx => ∃ g11, v = .pointer (some ⟨g11, 0, none⟩) ∧ Blk wx g11 54 (cF f) ∧ Blk wx w.heap.size 56 A ∧ Blk wx (w.heap.size + 1) 56 B ∧ Blk wx (w.heap.size + 1 + 1 + 1) 56 z ∧ Blk wx g7 54 (cF a) ∧ Blk wx g8 54 (cF b) ∧ Blk wx g9 54 (cF c) ∧ Blk wx g10 54 (cF e) ∧ Below w.heap.size w wx ∧ w.heap.size + 1 + 1 + 1 < g11)
 case first =>
  refine wp_region_held_drew (S := fun V => Below W10.heap.size W10 V) (by kernel_rfl) ((Below.refl _ _).drew) (fun hHeld => ?_)
  have HBW10 := hid ((Below.refl W10.heap.size W10).drew)
  generalize W10.drew = VW10 at *
  refine' wpAnyH_take (i := 0) (oi := _) (v := .agg (cF d)) ?hit1 ?hst1 ?hft1 ?hrt1 ?hQt1 ?hyt1 ?hSt1 ?_
  case hit1 => (simp only [zD, zE, zF]; rfl)
  case hst1 | hft1 | hrt1 => kernel_rfl
  case hQt1 => exact fun _ _ _ h => h
  case hSt1 => assumption
  case hyt1 =>
   refine Or.inl ⟨by rfl, ?_⟩
   intro W hS
   exact quiet_load_row 54 (.tmp 5) _ rfl 54 (cF d) _ (D5.out.old hS) Tryz.underlying54 rfl (cF_ok _).1 rfl
  (try simp only [Act.put, zA, zB, zC])
  refine' wpAnyH_take (i := 1) (oi := _) (v := .agg (cF c)) ?hit2 ?hst2 ?hft2 ?hrt2 ?hQt2 ?hyt2 ?hSt2 ?_
  case hit2 => (simp only [zD, zE, zF]; rfl)
  case hst2 | hft2 | hrt2 => kernel_rfl
  case hQt2 => exact fun _ _ _ h => h
  case hSt2 => assumption
  case hyt2 =>
   refine Or.inl ⟨by rfl, ?_⟩
   intro W hS
   exact quiet_load_row 54 (.tmp 9) _ rfl 54 (cF c) _ (X9.out.old hS) Tryz.underlying54 rfl (cF_ok _).1 rfl
  (try simp only [Act.put, zA, zB, zC])
  refine' wpAnyH_take (i := 3) (oi := _) (v := .agg (cF e)) ?hit3 ?hst3 ?hft3 ?hrt3 ?hQt3 ?hyt3 ?hSt3 ?_
  case hit3 => (simp only [zD, zE, zF]; rfl)
  case hst3 | hft3 | hrt3 => kernel_rfl
  case hQt3 => exact fun _ _ _ h => h
  case hSt3 => assumption
  case hyt3 =>
   refine Or.inl ⟨by rfl, ?_⟩
   intro W hS
   exact quiet_load_row 54 (.tmp 10) _ rfl 54 (cF e) _ (X10.out.old hS) Tryz.underlying54 rfl (cF_ok _).1 rfl
  (try simp only [Act.put, zA, zB, zC])
  refine wpAnyH_ready (rs := [2, 5]) (by kernel_rfl) (by simp) ?_
  refine' (AllReadyH.cons (o := _) ?hir4_2 (fun K hK => ?br4_2) (AllReadyH.cons (o := _) ?hir4_5 (fun K hK => ?br4_5) AllReadyH.nil))
  case hir4_2 => (simp only [zD, zE, zF]; rfl)
  case hir4_5 => (simp only [zD, zE, zF]; rfl)
  case br4_2 =>
   go_simp
   refine (rMul _ _ _).mono ?_
   rintro e w5 ⟨rfl, hb5⟩
   have H5 := hid (HBW10.out.trans (hb5.mono HBW10.out.size))
   clear hb5
   go_wp2_with fail
   refine hK.out _ _ ?_ (fun hHeld => ?_)
   exact H5.out
   clear hK K
   (try simp only [Act.put, zA, zB, zC])
   refine wpAnyH_ready (rs := [4, 5]) (by kernel_rfl) (by simp) ?_
   refine' (AllReadyH.cons (o := _) ?hir6_4 (fun K hK => ?br6_4) (AllReadyH.cons (o := _) ?hir6_5 (fun K hK => ?br6_5) AllReadyH.nil))
   case hir6_4 => (simp only [zD, zE, zF]; rfl)
   case hir6_5 => (simp only [zD, zE, zF]; rfl)
   case br6_4 =>
    go_simp
    refine (C11.out _).mono ?_
    rintro e w7 ⟨rfl, hb7⟩
    have H7 := hid (H5.out.trans (hb7.mono H5.out.size))
    clear hb7
    go_wp2_with fail
    refine hK.out _ _ ?_ (fun hHeld => ?_)
    exact H7.out
    clear hK K
    (try simp only [Act.put, zA, zB, zC])
    refine wpAnyH_ready (rs := [5]) (by kernel_rfl) (by simp) ?_
    refine' (AllReadyH.cons (o := _) ?hir8_5 (fun K hK => ?br8_5) AllReadyH.nil)
    case hir8_5 => (simp only [zD, zE, zF]; rfl)
    case br8_5 =>
     go_simp
     refine hK.out _ _ ?_ (fun hHeld => ?_)
     ·exact (H7.out.alloc H7.out.size _)
     have H9 := hid (H7.out.alloc H7.out.size (.cells zf 54))
     have N11_9 := hid (alloc_new H7.out 54 zf)
     have G11_9 := hid H7.out.size
     clear hK K
     (try simp only [Act.put, zA, zB, zC])
     refine wpAnyH_ready (rs := [6]) (by kernel_rfl) (by simp) ?_
     refine' (AllReadyH.cons (o := _) ?hir10_6 (fun K hK => ?br10_6) AllReadyH.nil)
     case hir10_6 => (simp only [zD, zE, zF]; rfl)
     case br10_6 =>
      refine step_of_wp rfl ?_
      refine wp_store_row 54 (.tmp 11) (.tmp 37) rfl _ (cF f) rfl rfl 54 _ N11_9.out (cF_ok _).1 (of.out _) (cF_ok _).2 ?_
      refine hK.out _ _ ?_ (fun hHeld => ?_)
      exact below_row H9.out G11_9.out _
      clear hK K
      (try simp only [Act.put, zA, zB, zC])
      refine wpAnyH_done (by kernel_rfl) ?_ _
      have FA1 := hid ((A1.out.old H9.out).rowFar (Nat.ne_of_lt (Nat.lt_of_lt_of_le A1.out.lt G11_9.out)) (cF f))
      have FA2 := hid ((A2.out.old H9.out).rowFar (Nat.ne_of_lt (Nat.lt_of_lt_of_le A2.out.lt G11_9.out)) (cF f))
      have FZ6 := hid ((Z6.out.old H9.out).rowFar (Nat.ne_of_lt (Nat.lt_of_lt_of_le Z6.out.lt G11_9.out)) (cF f))
      have FX7 := hid ((X7.out.old H9.out).rowFar (Nat.ne_of_lt (Nat.lt_of_lt_of_le X7.out.lt G11_9.out)) (cF f))
      have FX8 := hid ((X8.out.old H9.out).rowFar (Nat.ne_of_lt (Nat.lt_of_lt_of_le X8.out.lt G11_9.out)) (cF f))
      have FX9 := hid ((X9.out.old H9.out).rowFar (Nat.ne_of_lt (Nat.lt_of_lt_of_le X9.out.lt G11_9.out)) (cF f))
      have FX10 := hid ((X10.out.old H9.out).rowFar (Nat.ne_of_lt (Nat.lt_of_lt_of_le X10.out.lt G11_9.out)) (cF f))
      have LL6 := hid (Nat.lt_of_lt_of_le Z6.out.lt G11_9.out)
      have HF := hid (below_row (HB.out.trans (H9.out.mono HB.out.size)) (Nat.le_trans HB.out.size G11_9.out) (cF f))
      have FN11 := hid (N11_9.out.row (cF f))
      clear hHeld
      go_wp2_with fail
      go_meet
      exact ⟨_, rfl, FN11.out, FA1.out, FA2.out, FZ6.out, FX7.out, FX8.out, FX9.out, FX10.out, HF.out, LL6.out⟩
   case br6_5 =>
    go_simp
    refine hK.out _ _ ?_ (fun hHeld => ?_)
    ·exact (H5.out.alloc H5.out.size _)
    have H12 := hid (H5.out.alloc H5.out.size (.cells zf 54))
    have N11_12 := hid (alloc_new H5.out 54 zf)
    have G11_12 := hid H5.out.size
    clear hK K
    (try simp only [Act.put, zA, zB, zC])
    refine wpAnyH_ready (rs := [4]) (by kernel_rfl) (by simp) ?_
    refine' (AllReadyH.cons (o := _) ?hir13_4 (fun K hK => ?br13_4) AllReadyH.nil)
    case hir13_4 => (simp only [zD, zE, zF]; rfl)
    case br13_4 =>
     go_simp
     refine (C11.out _).mono ?_
     rintro e w14 ⟨rfl, hb14⟩
     have H14 := hid (H12.out.trans (hb14.mono H12.out.size))
     have N11_14 := hid (N11_12.out.old hb14)
     clear hb14
     go_wp2_with fail
     refine hK.out _ _ ?_ (fun hHeld => ?_)
     exact H14.out
     clear hK K
     (try simp only [Act.put, zA, zB, zC])
     refine wpAnyH_ready (rs := [6]) (by kernel_rfl) (by simp) ?_
     refine' (AllReadyH.cons (o := _) ?hir15_6 (fun K hK => ?br15_6) AllReadyH.nil)
     case hir15_6 => (simp only [zD, zE, zF]; rfl)
     case br15_6 =>
      refine step_of_wp rfl ?_
      refine wp_store_row 54 (.tmp 11) (.tmp 37) rfl _ (cF f) rfl rfl 54 _ N11_14.out (cF_ok _).1 (of.out _) (cF_ok _).2 ?_
      refine hK.out _ _ ?_ (fun hHeld => ?_)
      exact below_row H14.out G11_12.out _
      clear hK K
      (try simp only [Act.put, zA, zB, zC])
      refine wpAnyH_done (by kernel_rfl) ?_ _
      have FA1 := hid ((A1.out.old H14.out).rowFar (Nat.ne_of_lt (Nat.lt_of_lt_of_le A1.out.lt G11_12.out)) (cF f))
      have FA2 := hid ((A2.out.old H14.out).rowFar (Nat.ne_of_lt (Nat.lt_of_lt_of_le A2.out.lt G11_12.out)) (cF f))
      have FZ6 := hid ((Z6.out.old H14.out).rowFar (Nat.ne_of_lt (Nat.lt_of_lt_of_le Z6.out.lt G11_12.out)) (cF f))
      have FX7 := hid ((X7.out.old H14.out).rowFar (Nat.ne_of_lt (Nat.lt_of_lt_of_le X7.out.lt G11_12.out)) (cF f))
      have FX8 := hid ((X8.out.old H14.out).rowFar (Nat.ne_of_lt (Nat.lt_of_lt_of_le X8.out.lt G11_12.out)) (cF f))
      have FX9 := hid ((X9.out.old H14.out).rowFar (Nat.ne_of_lt (Nat.lt_of_lt_of_le X9.out.lt G11_12.out)) (cF f))
      have FX10 := hid ((X10.out.old H14.out).rowFar (Nat.ne_of_lt (Nat.lt_of_lt_of_le X10.out.lt G11_12.out)) (cF f))
      have LL6 := hid (Nat.lt_of_lt_of_le Z6.out.lt G11_12.out)
      have HF := hid (below_row (HB.out.trans (H14.out.mono HB.out.size)) (Nat.le_trans HB.out.size G11_12.out) (cF f))
      have FN11 := hid (N11_14.out.row (cF f))
      clear hHeld
      go_wp2_with fail
      go_meet
      exact ⟨_, rfl, FN11.out, FA1.out, FA2.out, FZ6.out, FX7.out, FX8.out, FX9.out, FX10.out, HF.out, LL6.out⟩
  case br4_5 =>
   go_simp
   refine hK.out _ _ ?_ (fun hHeld => ?_)
   ·exact (HBW10.out.alloc HBW10.out.size _)
   have H17 := hid (HBW10.out.alloc HBW10.out.size (.cells zf 54))
   have N11_17 := hid (alloc_new HBW10.out 54 zf)
   have G11_17 := hid HBW10.out.size
   clear hK K
   (try simp only [Act.put, zA, zB, zC])
   refine wpAnyH_ready (rs := [2]) (by kernel_rfl) (by simp) ?_
   refine' (AllReadyH.cons (o := _) ?hir18_2 (fun K hK => ?br18_2) AllReadyH.nil)
   case hir18_2 => (simp only [zD, zE, zF]; rfl)
   case br18_2 =>
    go_simp
    refine (rMul _ _ _).mono ?_
    rintro e w19 ⟨rfl, hb19⟩
    have H19 := hid (H17.out.trans (hb19.mono H17.out.size))
    have N11_19 := hid (N11_17.out.old hb19)
    clear hb19
    go_wp2_with fail
    refine hK.out _ _ ?_ (fun hHeld => ?_)
    exact H19.out
    clear hK K
    (try simp only [Act.put, zA, zB, zC])
    refine wpAnyH_ready (rs := [4]) (by kernel_rfl) (by simp) ?_
    refine' (AllReadyH.cons (o := _) ?hir20_4 (fun K hK => ?br20_4) AllReadyH.nil)
    case hir20_4 => (simp only [zD, zE, zF]; rfl)
    case br20_4 =>
     go_simp
     refine (C11.out _).mono ?_
     rintro e w21 ⟨rfl, hb21⟩
     have H21 := hid (H19.out.trans (hb21.mono H19.out.size))
     have N11_21 := hid (N11_19.out.old hb21)
     clear hb21
     go_wp2_with fail
     refine hK.out _ _ ?_ (fun hHeld => ?_)
     exact H21.out
     clear hK K
     (try simp only [Act.put, zA, zB, zC])
     refine wpAnyH_ready (rs := [6]) (by kernel_rfl) (by simp) ?_
     refine' (AllReadyH.cons (o := _) ?hir22_6 (fun K hK => ?br22_6) AllReadyH.nil)
     case hir22_6 => (simp only [zD, zE, zF]; rfl)
     case br22_6 =>
      refine step_of_wp rfl ?_
      refine wp_store_row 54 (.tmp 11) (.tmp 37) rfl _ (cF f) rfl rfl 54 _ N11_21.out (cF_ok _).1 (of.out _) (cF_ok _).2 ?_
      refine hK.out _ _ ?_ (fun hHeld => ?_)
      exact below_row H21.out G11_17.out _
      clear hK K
      (try simp only [Act.put, zA, zB, zC])
      refine wpAnyH_done (by kernel_rfl) ?_ _
      have FA1 := hid ((A1.out.old H21.out).rowFar (Nat.ne_of_lt (Nat.lt_of_lt_of_le A1.out.lt G11_17.out)) (cF f))
      have FA2 := hid ((A2.out.old H21.out).rowFar (Nat.ne_of_lt (Nat.lt_of_lt_of_le A2.out.lt G11_17.out)) (cF f))
      have FZ6 := hid ((Z6.out.old H21.out).rowFar (Nat.ne_of_lt (Nat.lt_of_lt_of_le Z6.out.lt G11_17.out)) (cF f))
      have FX7 := hid ((X7.out.old H21.out).rowFar (Nat.ne_of_lt (Nat.lt_of_lt_of_le X7.out.lt G11_17.out)) (cF f))
      have FX8 := hid ((X8.out.old H21.out).rowFar (Nat.ne_of_lt (Nat.lt_of_lt_of_le X8.out.lt G11_17.out)) (cF f))
      have FX9 := hid ((X9.out.old H21.out).rowFar (Nat.ne_of_lt (Nat.lt_of_lt_of_le X9.out.lt G11_17.out)) (cF f))
      have FX10 := hid ((X10.out.old H21.out).rowFar (Nat.ne_of_lt (Nat.lt_of_lt_of_le X10.out.lt G11_17.out)) (cF f))
      have LL6 := hid (Nat.lt_of_lt_of_le Z6.out.lt G11_17.out)
      have HF := hid (below_row (HB.out.trans (H21.out.mono HB.out.size)) (Nat.le_trans HB.out.size G11_17.out) (cF f))
      have FN11 := hid (N11_21.out.row (cF f))
      clear hHeld
      go_wp2_with fail
      go_meet
      exact ⟨_, rfl, FN11.out, FA1.out, FA2.out, FZ6.out, FX7.out, FX8.out, FX9.out, FX10.out, HF.out, LL6.out⟩
 case rest =>
 obtain ⟨g11, rfl, kn, k0, k1, k2, k3, k4, k5, k6, kb, kl⟩ := hcut
 generalize wc = W11 at *
 clear A1 A2 D5 Z6 X7 X8 X9 X10 HB zlt
 have X11 := hid kn
 have A1 := hid k0
 have A2 := hid k1
 have Z6 := hid k2
 have X7 := hid k3
 have X8 := hid k4
 have X9 := hid k5
 have X10 := hid k6
 have HB := hid kb
 have L11 := hid kl
 clear kn k0 k1 k2 k3 k4 k5 k6 kb kl
 (try simp only [Act.put, zA, zB, zC])
 have zlt : Hid (w.heap.size + 1 + 1 + 1 < W11.heap.size) := hid Z6.out.lt
 go_upto_region 7 with (first | (refine wpList_load_row rfl 54 (.tmp 8) rfl g8 rfl 54 (cF b) (0, 0) _ X8.out Tryz.underlying54 rfl (cF_ok _).1 ?_) | (refine wpList_load_row rfl 54 (.tmp 11) rfl g11 rfl 54 (cF f) (0, 0) _ X11.out Tryz.underlying54 rfl (cF_ok _).1 ?_))
 refine (C12.out _).mono ?_
 rintro e w5 ⟨rfl, hb⟩
 have A1 := hid ((A1.out.old hb).alloc (.cells (cF g) 54))
 have A2 := hid ((A2.out.old hb).alloc (.cells (cF g) 54))
 have Z6 := hid ((Z6.out.old hb).alloc (.cells (cF g) 54))
 have X7 := hid ((X7.out.old hb).alloc (.cells (cF g) 54))
 have X8 := hid ((X8.out.old hb).alloc (.cells (cF g) 54))
 have X9 := hid ((X9.out.old hb).alloc (.cells (cF g) 54))
 have X10 := hid ((X10.out.old hb).alloc (.cells (cF g) 54))
 have X11 := hid ((X11.out.old hb).alloc (.cells (cF g) 54))
 have HB := hid ((HB.out.trans (hb.mono HB.out.size)).alloc (HB.out.trans (hb.mono HB.out.size)).size (.cells (cF g) 54))
 have L12 : Hid (w.heap.size + 1 + 1 + 1 < w5.heap.size) := hid (Nat.lt_of_lt_of_le zlt.out hb.size)
 have X12 := hid (Blk.new w5 54 (cF g))
 clear hb
 go_upto_region 7 with (first | (refine wpList_store_row rfl 54 (.tmp 12) (.tmp 40) rfl w5.heap.size (cF g) rfl rfl 54 _ (heap_alloc_new w5 _) (cF_ok _).1 (of.out _) (cF_ok _).2 ?_; rw [setRow_alloc1]))
 generalize w5.alloc (.cells (cF g) 54) = W12 at *
 generalize w5.heap.size = g12 at *
 (try simp only [Act.put, zA, zB, zC])
 have zlt : Hid (w.heap.size + 1 + 1 + 1 < W12.heap.size) := hid Z6.out.lt
 go_upto_region 8 with (first | (refine wpList_load_row rfl 54 (.tmp 8) rfl g8 rfl 54 (cF b) (0, 0) _ X8.out Tryz.underlying54 rfl (cF_ok _).1 ?_) | (refine wpList_load_row rfl 54 (.tmp 11) rfl g11 rfl 54 (cF f) (0, 0) _ X11.out Tryz.underlying54 rfl (cF_ok _).1 ?_))
 refine (C13.out _).mono ?_
 rintro e w6 ⟨rfl, hb⟩
 have A1 := hid ((A1.out.old hb).alloc (.cells (cF h) 54))
 have A2 := hid ((A2.out.old hb).alloc (.cells (cF h) 54))
 have Z6 := hid ((Z6.out.old hb).alloc (.cells (cF h) 54))
 have X7 := hid ((X7.out.old hb).alloc (.cells (cF h) 54))
 have X8 := hid ((X8.out.old hb).alloc (.cells (cF h) 54))
 have X9 := hid ((X9.out.old hb).alloc (.cells (cF h) 54))
 have X10 := hid ((X10.out.old hb).alloc (.cells (cF h) 54))
 have X11 := hid ((X11.out.old hb).alloc (.cells (cF h) 54))
 have X12 := hid ((X12.out.old hb).alloc (.cells (cF h) 54))
 have HB := hid ((HB.out.trans (hb.mono HB.out.size)).alloc (HB.out.trans (hb.mono HB.out.size)).size (.cells (cF h) 54))
 have L13 : Hid (w.heap.size + 1 + 1 + 1 < w6.heap.size) := hid (Nat.lt_of_lt_of_le zlt.out hb.size)
 have X13 := hid (Blk.new w6 54 (cF h))
 clear hb
 go_upto_region 8 with (first | (refine wpList_store_row rfl 54 (.tmp 13) (.tmp 43) rfl w6.heap.size (cF h) rfl rfl 54 _ (heap_alloc_new w6 _) (cF_ok _).1 (of.out _) (cF_ok _).2 ?_; rw [setRow_alloc1]))
 generalize w6.alloc (.cells (cF h) 54) = W13 at *
 generalize w6.heap.size = g13 at *
 (try simp only [Act.put, zA, zB, zC])
 have zlt : Hid (w.heap.size + 1 + 1 + 1 < W13.heap.size) := hid Z6.out.lt
 go_cut [14] (fun v wx => ∃ g14, v = .pointer (some ⟨g14, 0, none⟩) ∧ Blk wx g14 54 (cF k) ∧ Blk wx (w.heap.size + 1 + 1 + 1) 56 z ∧ Blk wx g7 54 (cF a) ∧ Blk wx g9 54 (cF c) ∧ Blk wx g10 54 (cF e) ∧ Blk wx g12 54 (cF g) ∧ Blk wx g13 54 (cF h) ∧ Below w.heap.size w wx ∧ w.heap.size + 1 + 1 + 1 < g14)
 case first =>
  refine wp_region_held_drew (S := fun V => Below W13.heap.size W13 V) (by kernel_rfl) ((Below.refl _ _).drew) (fun hHeld => ?_)
  have HBW13 := hid ((Below.refl W13.heap.size W13).drew)
  generalize W13.drew = VW13 at *
  refine' wpAnyH_take (i := 0) (oi := _) (v := _) ?hit24 ?hst24 ?hft24 ?hrt24 ?hQt24 ?hyt24 ?hSt24 ?_
  case hit24 => (simp only [zD, zE, zF]; rfl)
  case hst24 | hft24 | hrt24 => kernel_rfl
  case hQt24 => exact fun _ _ _ h => h
  case hSt24 => assumption
  case hyt24 =>
   refine Or.inl ⟨by rfl, ?_⟩
   intro w hSw
   (try dsimp only at hSw)
   go_simp
   all_goals (with_reducible rfl)
  (try simp only [Act.put, zA, zB, zC])
  refine' wpAnyH_take (i := 1) (oi := _) (v := .agg (cF x1)) ?hit25 ?hst25 ?hft25 ?hrt25 ?hQt25 ?hyt25 ?hSt25 ?_
  case hit25 => (simp only [zD, zE, zF]; rfl)
  case hst25 | hft25 | hrt25 => kernel_rfl
  case hQt25 => exact fun _ _ _ h => h
  case hSt25 => assumption
  case hyt25 =>
   refine Or.inl ⟨by rfl, ?_⟩
   intro W hS
   exact quiet_load_at 54 (.tmp 44) _ 0 rfl 40 16 (cF x1) Tryz.underlying54 (cF_ok _).1 (KX.out _ _ _ (A1.out.old hS)) rfl
  (try simp only [Act.put, zA, zB, zC])
  refine' wpAnyH_take (i := 2) (oi := _) (v := _) ?hit26 ?hst26 ?hft26 ?hrt26 ?hQt26 ?hyt26 ?hSt26 ?_
  case hit26 => (simp only [zD, zE, zF]; rfl)
  case hst26 | hft26 | hrt26 => kernel_rfl
  case hQt26 => exact fun _ _ _ h => h
  case hSt26 => assumption
  case hyt26 =>
   refine Or.inl ⟨by rfl, ?_⟩
   intro w hSw
   (try dsimp only at hSw)
   go_simp
   all_goals (with_reducible rfl)
  (try simp only [Act.put, zA, zB, zC])
  refine' wpAnyH_take (i := 3) (oi := _) (v := .agg (cF y1)) ?hit27 ?hst27 ?hft27 ?hrt27 ?hQt27 ?hyt27 ?hSt27 ?_
  case hit27 => (simp only [zD, zE, zF]; rfl)
  case hst27 | hft27 | hrt27 => kernel_rfl
  case hQt27 => exact fun _ _ _ h => h
  case hSt27 => assumption
  case hyt27 =>
   refine Or.inl ⟨by rfl, ?_⟩
   intro W hS
   exact quiet_load_at 54 (.tmp 46) _ 16 rfl 40 16 (cF y1) Tryz.underlying54 (cF_ok _).1 (KY.out _ _ _ (A1.out.old hS)) rfl
  (try simp only [Act.put, zA, zB, zC])
  refine' wpAnyH_take (i := 5) (oi := _) (v := _) ?hit28 ?hst28 ?hft28 ?hrt28 ?hQt28 ?hyt28 ?hSt28 ?_
  case hit28 => (simp only [zD, zE, zF]; rfl)
  case hst28 | hft28 | hrt28 => kernel_rfl
  case hQt28 => exact fun _ _ _ h => h
  case hSt28 => assumption
  case hyt28 =>
   refine Or.inl ⟨by rfl, ?_⟩
   intro w hSw
   (try dsimp only at hSw)
   go_simp
   all_goals (with_reducible rfl)
  (try simp only [Act.put, zA, zB, zC])
  refine' wpAnyH_take (i := 6) (oi := _) (v := .agg (cF x2)) ?hit29 ?hst29 ?hft29 ?hrt29 ?hQt29 ?hyt29 ?hSt29 ?_
  case hit29 => (simp only [zD, zE, zF]; rfl)
  case hst29 | hft29 | hrt29 => kernel_rfl
  case hQt29 => exact fun _ _ _ h => h
  case hSt29 => assumption
  case hyt29 =>
   refine Or.inl ⟨by rfl, ?_⟩
   intro W hS
   exact quiet_load_at 54 (.tmp 49) _ 0 rfl 40 16 (cF x2) Tryz.underlying54 (cF_ok _).1 (LX.out _ _ _ (A2.out.old hS)) rfl
  (try simp only [Act.put, zA, zB, zC])
  refine' wpAnyH_take (i := 7) (oi := _) (v := _) ?hit30 ?hst30 ?hft30 ?hrt30 ?hQt30 ?hyt30 ?hSt30 ?_
  case hit30 => (simp only [zD, zE, zF]; rfl)
  case hst30 | hft30 | hrt30 => kernel_rfl
  case hQt30 => exact fun _ _ _ h => h
  case hSt30 => assumption
  case hyt30 =>
   refine Or.inl ⟨by rfl, ?_⟩
   intro w hSw
   (try dsimp only at hSw)
   go_simp
   all_goals (with_reducible rfl)
  (try simp only [Act.put, zA, zB, zC])
  refine' wpAnyH_take (i := 8) (oi := _) (v := .agg (cF y2)) ?hit31 ?hst31 ?hft31 ?hrt31 ?hQt31 ?hyt31 ?hSt31 ?_
  case hit31 => (simp only [zD, zE, zF]; rfl)
  case hst31 | hft31 | hrt31 => kernel_rfl
  case hQt31 => exact fun _ _ _ h => h
  case hSt31 => assumption
  case hyt31 =>
   refine Or.inl ⟨by rfl, ?_⟩
   intro W hS
   exact quiet_load_at 54 (.tmp 51) _ 16 rfl 40 16 (cF y2) Tryz.underlying54 (cF_ok _).1 (LY.out _ _ _ (A2.out.old hS)) rfl
  (try simp only [Act.put, zA, zB, zC])
  refine' wpAnyH_take (i := 11) (oi := _) (v := .agg (cF c)) ?hit32 ?hst32 ?hft32 ?hrt32 ?hQt32 ?hyt32 ?hSt32 ?_
  case hit32 => (simp only [zD, zE, zF]; rfl)
  case hst32 | hft32 | hrt32 => kernel_rfl
  case hQt32 => exact fun _ _ _ h => h
  case hSt32 => assumption
  case hyt32 =>
   refine Or.inl ⟨by rfl, ?_⟩
   intro W hS
   exact quiet_load_row 54 (.tmp 9) _ rfl 54 (cF c) _ (X9.out.old hS) Tryz.underlying54 rfl (cF_ok _).1 rfl
  (try simp only [Act.put, zA, zB, zC])
  refine' wpAnyH_take (i := 13) (oi := _) (v := .agg (cF e)) ?hit33 ?hst33 ?hft33 ?hrt33 ?hQt33 ?hyt33 ?hSt33 ?_
  case hit33 => (simp only [zD, zE, zF]; rfl)
  case hst33 | hft33 | hrt33 => kernel_rfl
  case hQt33 => exact fun _ _ _ h => h
  case hSt33 => assumption
  case hyt33 =>
   refine Or.inl ⟨by rfl, ?_⟩
   intro W hS
   exact quiet_load_row 54 (.tmp 10) _ rfl 54 (cF e) _ (X10.out.old hS) Tryz.underlying54 rfl (cF_ok _).1 rfl
  (try simp only [Act.put, zA, zB, zC])
  refine wpAnyH_ready (rs := [4, 15]) (by kernel_rfl) (by simp) ?_
  refine' (AllReadyH.cons (o := _) ?hir34_4 (fun K hK => ?br34_4) (AllReadyH.cons (o := _) ?hir34_15 (fun K hK => ?br34_15) AllReadyH.nil))
  case hir34_4 => (simp only [zD, zE, zF]; rfl)
  case hir34_15 => (simp only [zD, zE, zF]; rfl)
  case br34_4 =>
   go_simp
   refine (rAdd _ _ _).mono ?_
   rintro e w35 ⟨rfl, hb35⟩
   have H35 := hid (HBW13.out.trans (hb35.mono HBW13.out.size))
   clear hb35
   go_wp2_with fail
   refine hK.out _ _ ?_ (fun hHeld => ?_)
   exact H35.out
   clear hK K
   (try simp only [Act.put, zA, zB, zC])
   refine wpAnyH_ready (rs := [9, 15]) (by kernel_rfl) (by simp) ?_
   refine' (AllReadyH.cons (o := _) ?hir36_9 (fun K hK => ?br36_9) (AllReadyH.cons (o := _) ?hir36_15 (fun K hK => ?br36_15) AllReadyH.nil))
   case hir36_9 => (simp only [zD, zE, zF]; rfl)
   case hir36_15 => (simp only [zD, zE, zF]; rfl)
   case br36_9 =>
    go_simp
    refine (rAdd _ _ _).mono ?_
    rintro e w37 ⟨rfl, hb37⟩
    have H37 := hid (H35.out.trans (hb37.mono H35.out.size))
    clear hb37
    go_wp2_with fail
    refine hK.out _ _ ?_ (fun hHeld => ?_)
    exact H37.out
    clear hK K
    (try simp only [Act.put, zA, zB, zC])
    refine wpAnyH_ready (rs := [10, 15]) (by kernel_rfl) (by simp) ?_
    refine' (AllReadyH.cons (o := _) ?hir38_10 (fun K hK => ?br38_10) (AllReadyH.cons (o := _) ?hir38_15 (fun K hK => ?br38_15) AllReadyH.nil))
    case hir38_10 => (simp only [zD, zE, zF]; rfl)
    case hir38_15 => (simp only [zD, zE, zF]; rfl)
    case br38_10 =>
     go_simp
     refine (rMul _ _ _).mono ?_
     rintro e w39 ⟨rfl, hb39⟩
     have H39 := hid (H37.out.trans (hb39.mono H37.out.size))
     clear hb39
     go_wp2_with fail
     refine hK.out _ _ ?_ (fun hHeld => ?_)
     exact H39.out
     clear hK K
     (try simp only [Act.put, zA, zB, zC])
     refine wpAnyH_ready (rs := [12, 15]) (by kernel_rfl) (by simp) ?_
     refine' (AllReadyH.cons (o := _) ?hir40_12 (fun K hK => ?br40_12) (AllReadyH.cons (o := _) ?hir40_15 (fun K hK => ?br40_15) AllReadyH.nil))
     case hir40_12 => (simp only [zD, zE, zF]; rfl)
     case hir40_15 => (simp only [zD, zE, zF]; rfl)
     case br40_12 =>
      go_simp
      refine (rSub _ _ _).mono ?_
      rintro e w41 ⟨rfl, hb41⟩
      have H41 := hid (H39.out.trans (hb41.mono H39.out.size))
      clear hb41
      go_wp2_with fail
      refine hK.out _ _ ?_ (fun hHeld => ?_)
      exact H41.out
      clear hK K
      (try simp only [Act.put, zA, zB, zC])
      refine wpAnyH_ready (rs := [14, 15]) (by kernel_rfl) (by simp) ?_
      refine' (AllReadyH.cons (o := _) ?hir42_14 (fun K hK => ?br42_14) (AllReadyH.cons (o := _) ?hir42_15 (fun K hK => ?br42_15) AllReadyH.nil))
      case hir42_14 => (simp only [zD, zE, zF]; rfl)
      case hir42_15 => (simp only [zD, zE, zF]; rfl)
      case br42_14 =>
       go_simp
       refine (C14.out _).mono ?_
       rintro e w43 ⟨rfl, hb43⟩
       have H43 := hid (H41.out.trans (hb43.mono H41.out.size))
       clear hb43
       go_wp2_with fail
       refine hK.out _ _ ?_ (fun hHeld => ?_)
       exact H43.out
       clear hK K
       (try simp only [Act.put, zA, zB, zC])
       refine wpAnyH_ready (rs := [15]) (by kernel_rfl) (by simp) ?_
       refine' (AllReadyH.cons (o := _) ?hir44_15 (fun K hK => ?br44_15) AllReadyH.nil)
       case hir44_15 => (simp only [zD, zE, zF]; rfl)
       case br44_15 =>
        go_simp
        refine hK.out _ _ ?_ (fun hHeld => ?_)
        ·exact (H43.out.alloc H43.out.size _)
        have H45 := hid (H43.out.alloc H43.out.size (.cells zf 54))
        have N14_45 := hid (alloc_new H43.out 54 zf)
        have G14_45 := hid H43.out.size
        clear hK K
        (try simp only [Act.put, zA, zB, zC])
        refine wpAnyH_ready (rs := [16]) (by kernel_rfl) (by simp) ?_
        refine' (AllReadyH.cons (o := _) ?hir46_16 (fun K hK => ?br46_16) AllReadyH.nil)
        case hir46_16 => (simp only [zD, zE, zF]; rfl)
        case br46_16 =>
         refine step_of_wp rfl ?_
         refine wp_store_row 54 (.tmp 14) (.tmp 58) rfl _ (cF k) rfl rfl 54 _ N14_45.out (cF_ok _).1 (of.out _) (cF_ok _).2 ?_
         refine hK.out _ _ ?_ (fun hHeld => ?_)
         exact below_row H45.out G14_45.out _
         clear hK K
         (try simp only [Act.put, zA, zB, zC])
         refine wpAnyH_done (by kernel_rfl) ?_ _
         have FZ6 := hid ((Z6.out.old H45.out).rowFar (Nat.ne_of_lt (Nat.lt_of_lt_of_le Z6.out.lt G14_45.out)) (cF k))
         have FX7 := hid ((X7.out.old H45.out).rowFar (Nat.ne_of_lt (Nat.lt_of_lt_of_le X7.out.lt G14_45.out)) (cF k))
         have FX9 := hid ((X9.out.old H45.out).rowFar (Nat.ne_of_lt (Nat.lt_of_lt_of_le X9.out.lt G14_45.out)) (cF k))
         have FX10 := hid ((X10.out.old H45.out).rowFar (Nat.ne_of_lt (Nat.lt_of_lt_of_le X10.out.lt G14_45.out)) (cF k))
         have FX12 := hid ((X12.out.old H45.out).rowFar (Nat.ne_of_lt (Nat.lt_of_lt_of_le X12.out.lt G14_45.out)) (cF k))
         have FX13 := hid ((X13.out.old H45.out).rowFar (Nat.ne_of_lt (Nat.lt_of_lt_of_le X13.out.lt G14_45.out)) (cF k))
         have LL6 := hid (Nat.lt_of_lt_of_le Z6.out.lt G14_45.out)
         have HF := hid (below_row (HB.out.trans (H45.out.mono HB.out.size)) (Nat.le_trans HB.out.size G14_45.out) (cF k))
         have FN14 := hid (N14_45.out.row (cF k))
         clear hHeld
         go_wp2_with fail
         go_meet
         exact ⟨_, rfl, FN14.out, FZ6.out, FX7.out, FX9.out, FX10.out, FX12.out, FX13.out, HF.out, LL6.out⟩
      case br42_15 =>
       go_simp
       refine hK.out _ _ ?_ (fun hHeld => ?_)
       ·exact (H41.out.alloc H41.out.size _)
       have H48 := hid (H41.out.alloc H41.out.size (.cells zf 54))
       have N14_48 := hid (alloc_new H41.out 54 zf)
       have G14_48 := hid H41.out.size
       clear hK K
       (try simp only [Act.put, zA, zB, zC])
       refine wpAnyH_ready (rs := [14]) (by kernel_rfl) (by simp) ?_
       refine' (AllReadyH.cons (o := _) ?hir49_14 (fun K hK => ?br49_14) AllReadyH.nil)
       case hir49_14 => (simp only [zD, zE, zF]; rfl)
       case br49_14 =>
        go_simp
        refine (C14.out _).mono ?_
        rintro e w50 ⟨rfl, hb50⟩
        have H50 := hid (H48.out.trans (hb50.mono H48.out.size))
        have N14_50 := hid (N14_48.out.old hb50)
        clear hb50
        go_wp2_with fail
        refine hK.out _ _ ?_ (fun hHeld => ?_)
        exact H50.out
        clear hK K
        (try simp only [Act.put, zA, zB, zC])
        refine wpAnyH_ready (rs := [16]) (by kernel_rfl) (by simp) ?_
        refine' (AllReadyH.cons (o := _) ?hir51_16 (fun K hK => ?br51_16) AllReadyH.nil)
        case hir51_16 => (simp only [zD, zE, zF]; rfl)
        case br51_16 =>
         refine step_of_wp rfl ?_
         refine wp_store_row 54 (.tmp 14) (.tmp 58) rfl _ (cF k) rfl rfl 54 _ N14_50.out (cF_ok _).1 (of.out _) (cF_ok _).2 ?_
         refine hK.out _ _ ?_ (fun hHeld => ?_)
         exact below_row H50.out G14_48.out _
         clear hK K
         (try simp only [Act.put, zA, zB, zC])
         refine wpAnyH_done (by kernel_rfl) ?_ _
         have FZ6 := hid ((Z6.out.old H50.out).rowFar (Nat.ne_of_lt (Nat.lt_of_lt_of_le Z6.out.lt G14_48.out)) (cF k))
         have FX7 := hid ((X7.out.old H50.out).rowFar (Nat.ne_of_lt (Nat.lt_of_lt_of_le X7.out.lt G14_48.out)) (cF k))
         have FX9 := hid ((X9.out.old H50.out).rowFar (Nat.ne_of_lt (Nat.lt_of_lt_of_le X9.out.lt G14_48.out)) (cF k))
         have FX10 := hid ((X10.out.old H50.out).rowFar (Nat.ne_of_lt (Nat.lt_of_lt_of_le X10.out.lt G14_48.out)) (cF k))
         have FX12 := hid ((X12.out.old H50.out).rowFar (Nat.ne_of_lt (Nat.lt_of_lt_of_le X12.out.lt G14_48.out)) (cF k))
         have FX13 := hid ((X13.out.old H50.out).rowFar (Nat.ne_of_lt (Nat.lt_of_lt_of_le X13.out.lt G14_48.out)) (cF k))
         have LL6 := hid (Nat.lt_of_lt_of_le Z6.out.lt G14_48.out)
         have HF := hid (below_row (HB.out.trans (H50.out.mono HB.out.size)) (Nat.le_trans HB.out.size G14_48.out) (cF k))
         have FN14 := hid (N14_50.out.row (cF k))
         clear hHeld
         go_wp2_with fail
         go_meet
         exact ⟨_, rfl, FN14.out, FZ6.out, FX7.out, FX9.out, FX10.out, FX12.out, FX13.out, HF.out, LL6.out⟩
     case br40_15 =>
      go_simp
      refine hK.out _ _ ?_ (fun hHeld => ?_)
      ·exact (H39.out.alloc H39.out.size _)
      have H53 := hid (H39.out.alloc H39.out.size (.cells zf 54))
      have N14_53 := hid (alloc_new H39.out 54 zf)
      have G14_53 := hid H39.out.size
      clear hK K
      (try simp only [Act.put, zA, zB, zC])
      refine wpAnyH_ready (rs := [12]) (by kernel_rfl) (by simp) ?_
      refine' (AllReadyH.cons (o := _) ?hir54_12 (fun K hK => ?br54_12) AllReadyH.nil)
      case hir54_12 => (simp only [zD, zE, zF]; rfl)
      case br54_12 =>
       go_simp
       refine (rSub _ _ _).mono ?_
       rintro e w55 ⟨rfl, hb55⟩
       have H55 := hid (H53.out.trans (hb55.mono H53.out.size))
       have N14_55 := hid (N14_53.out.old hb55)
       clear hb55
       go_wp2_with fail
       refine hK.out _ _ ?_ (fun hHeld => ?_)
       exact H55.out
       clear hK K
       (try simp only [Act.put, zA, zB, zC])
       refine wpAnyH_ready (rs := [14]) (by kernel_rfl) (by simp) ?_
       refine' (AllReadyH.cons (o := _) ?hir56_14 (fun K hK => ?br56_14) AllReadyH.nil)
       case hir56_14 => (simp only [zD, zE, zF]; rfl)
       case br56_14 =>
        go_simp
        refine (C14.out _).mono ?_
        rintro e w57 ⟨rfl, hb57⟩
        have H57 := hid (H55.out.trans (hb57.mono H55.out.size))
        have N14_57 := hid (N14_55.out.old hb57)
        clear hb57
        go_wp2_with fail
        refine hK.out _ _ ?_ (fun hHeld => ?_)
        exact H57.out
        clear hK K
        (try simp only [Act.put, zA, zB, zC])
        refine wpAnyH_ready (rs := [16]) (by kernel_rfl) (by simp) ?_
        refine' (AllReadyH.cons (o := _) ?hir58_16 (fun K hK => ?br58_16) AllReadyH.nil)
        case hir58_16 => (simp only [zD, zE, zF]; rfl)
        case br58_16 =>
         refine step_of_wp rfl ?_
         refine wp_store_row 54 (.tmp 14) (.tmp 58) rfl _ (cF k) rfl rfl 54 _ N14_57.out (cF_ok _).1 (of.out _) (cF_ok _).2 ?_
         refine hK.out _ _ ?_ (fun hHeld => ?_)
         exact below_row H57.out G14_53.out _
         clear hK K
         (try simp only [Act.put, zA, zB, zC])
         refine wpAnyH_done (by kernel_rfl) ?_ _
         have FZ6 := hid ((Z6.out.old H57.out).rowFar (Nat.ne_of_lt (Nat.lt_of_lt_of_le Z6.out.lt G14_53.out)) (cF k))
         have FX7 := hid ((X7.out.old H57.out).rowFar (Nat.ne_of_lt (Nat.lt_of_lt_of_le X7.out.lt G14_53.out)) (cF k))
         have FX9 := hid ((X9.out.old H57.out).rowFar (Nat.ne_of_lt (Nat.lt_of_lt_of_le X9.out.lt G14_53.out)) (cF k))
         have FX10 := hid ((X10.out.old H57.out).rowFar (Nat.ne_of_lt (Nat.lt_of_lt_of_le X10.out.lt G14_53.out)) (cF k))
         have FX12 := hid ((X12.out.old H57.out).rowFar (Nat.ne_of_lt (Nat.lt_of_lt_of_le X12.out.lt G14_53.out)) (cF k))
         have FX13 := hid ((X13.out.old H57.out).rowFar (Nat.ne_of_lt (Nat.lt_of_lt_of_le X13.out.lt G14_53.out)) (cF k))
         have LL6 := hid (Nat.lt_of_lt_of_le Z6.out.lt G14_53.out)
         have HF := hid (below_row (HB.out.trans (H57.out.mono HB.out.size)) (Nat.le_trans HB.out.size G14_53.out) (cF k))
         have FN14 := hid (N14_57.out.row (cF k))
         clear hHeld
         go_wp2_with fail
         go_meet
         exact ⟨_, rfl, FN14.out, FZ6.out, FX7.out, FX9.out, FX10.out, FX12.out, FX13.out, HF.out, LL6.out⟩
    case br38_15 =>
     go_simp
     refine hK.out _ _ ?_ (fun hHeld => ?_)
     ·exact (H37.out.alloc H37.out.size _)
     have H60 := hid (H37.out.alloc H37.out.size (.cells zf 54))
     have N14_60 := hid (alloc_new H37.out 54 zf)
     have G14_60 := hid H37.out.size
     clear hK K
     (try simp only [Act.put, zA, zB, zC])
     refine wpAnyH_ready (rs := [10]) (by kernel_rfl) (by simp) ?_
     refine' (AllReadyH.cons (o := _) ?hir61_10 (fun K hK => ?br61_10) AllReadyH.nil)
     case hir61_10 => (simp only [zD, zE, zF]; rfl)
     case br61_10 =>
      go_simp
      refine (rMul _ _ _).mono ?_
      rintro e w62 ⟨rfl, hb62⟩
      have H62 := hid (H60.out.trans (hb62.mono H60.out.size))
      have N14_62 := hid (N14_60.out.old hb62)
      clear hb62
      go_wp2_with fail
      refine hK.out _ _ ?_ (fun hHeld => ?_)
      exact H62.out
      clear hK K
      (try simp only [Act.put, zA, zB, zC])
      refine wpAnyH_ready (rs := [12]) (by kernel_rfl) (by simp) ?_
      refine' (AllReadyH.cons (o := _) ?hir63_12 (fun K hK => ?br63_12) AllReadyH.nil)
      case hir63_12 => (simp only [zD, zE, zF]; rfl)
      case br63_12 =>
       go_simp
       refine (rSub _ _ _).mono ?_
       rintro e w64 ⟨rfl, hb64⟩
       have H64 := hid (H62.out.trans (hb64.mono H62.out.size))
       have N14_64 := hid (N14_62.out.old hb64)
       clear hb64
       go_wp2_with fail
       refine hK.out _ _ ?_ (fun hHeld => ?_)
       exact H64.out
       clear hK K
       (try simp only [Act.put, zA, zB, zC])
       refine wpAnyH_ready (rs := [14]) (by kernel_rfl) (by simp) ?_
       refine' (AllReadyH.cons (o := _) ?hir65_14 (fun K hK => ?br65_14) AllReadyH.nil)
       case hir65_14 => (simp only [zD, zE, zF]; rfl)
       case br65_14 =>
        go_simp
        refine (C14.out _).mono ?_
        rintro e w66 ⟨rfl, hb66⟩
        have H66 := hid (H64.out.trans (hb66.mono H64.out.size))
        have N14_66 := hid (N14_64.out.old hb66)
        clear hb66
        go_wp2_with fail
        refine hK.out _ _ ?_ (fun hHeld => ?_)
        exact H66.out
        clear hK K
        (try simp only [Act.put, zA, zB, zC])
        refine wpAnyH_ready (rs := [16]) (by kernel_rfl) (by simp) ?_
        refine' (AllReadyH.cons (o := _) ?hir67_16 (fun K hK => ?br67_16) AllReadyH.nil)
        case hir67_16 => (simp only [zD, zE, zF]; rfl)
        case br67_16 =>
         refine step_of_wp rfl ?_
         refine wp_store_row 54 (.tmp 14) (.tmp 58) rfl _ (cF k) rfl rfl 54 _ N14_66.out (cF_ok _).1 (of.out _) (cF_ok _).2 ?_
         refine hK.out _ _ ?_ (fun hHeld => ?_)
         exact below_row H66.out G14_60.out _
         clear hK K
         (try simp only [Act.put, zA, zB, zC])
         refine wpAnyH_done (by kernel_rfl) ?_ _
         have FZ6 := hid ((Z6.out.old H66.out).rowFar (Nat.ne_of_lt (Nat.lt_of_lt_of_le Z6.out.lt G14_60.out)) (cF k))
         have FX7 := hid ((X7.out.old H66.out).rowFar (Nat.ne_of_lt (Nat.lt_of_lt_of_le X7.out.lt G14_60.out)) (cF k))
         have FX9 := hid ((X9.out.old H66.out).rowFar (Nat.ne_of_lt (Nat.lt_of_lt_of_le X9.out.lt G14_60.out)) (cF k))
         have FX10 := hid ((X10.out.old H66.out).rowFar (Nat.ne_of_lt (Nat.lt_of_lt_of_le X10.out.lt G14_60.out)) (cF k))
         have FX12 := hid ((X12.out.old H66.out).rowFar (Nat.ne_of_lt (Nat.lt_of_lt_of_le X12.out.lt G14_60.out)) (cF k))
         have FX13 := hid ((X13.out.old H66.out).rowFar (Nat.ne_of_lt (Nat.lt_of_lt_of_le X13.out.lt G14_60.out)) (cF k))
         have LL6 := hid (Nat.lt_of_lt_of_le Z6.out.lt G14_60.out)
         have HF := hid (below_row (HB.out.trans (H66.out.mono HB.out.size)) (Nat.le_trans HB.out.size G14_60.out) (cF k))
         have FN14 := hid (N14_66.out.row (cF k))
         clear hHeld
         go_wp2_with fail
         go_meet
         exact ⟨_, rfl, FN14.out, FZ6.out, FX7.out, FX9.out, FX10.out, FX12.out, FX13.out, HF.out, LL6.out⟩
   case br36_15 =>
    go_simp
    refine hK.out _ _ ?_ (fun hHeld => ?_)
    ·exact (H35.out.alloc H35.out.size _)
    have H69 := hid (H35.out.alloc H35.out.size (.cells zf 54))
    have N14_69 := hid (alloc_new H35.out 54 zf)
    have G14_69 := hid H35.out.size
    clear hK K
    (try simp only [Act.put, zA, zB, zC])
    refine wpAnyH_ready (rs := [9]) (by kernel_rfl) (by simp) ?_
    refine' (AllReadyH.cons (o := _) ?hir70_9 (fun K hK => ?br70_9) AllReadyH.nil)
    case hir70_9 => (simp only [zD, zE, zF]; rfl)
    case br70_9 =>
     go_simp
     refine (rAdd _ _ _).mono ?_
     rintro e w71 ⟨rfl, hb71⟩
     have H71 := hid (H69.out.trans (hb71.mono H69.out.size))
     have N14_71 := hid (N14_69.out.old hb71)
     clear hb71
     go_wp2_with fail
     refine hK.out _ _ ?_ (fun hHeld => ?_)
     exact H71.out
     clear hK K
     (try simp only [Act.put, zA, zB, zC])
     refine wpAnyH_ready (rs := [10]) (by kernel_rfl) (by simp) ?_
     refine' (AllReadyH.cons (o := _) ?hir72_10 (fun K hK => ?br72_10) AllReadyH.nil)
     case hir72_10 => (simp only [zD, zE, zF]; rfl)
     case br72_10 =>
      go_simp
      refine (rMul _ _ _).mono ?_
      rintro e w73 ⟨rfl, hb73⟩
      have H73 := hid (H71.out.trans (hb73.mono H71.out.size))
      have N14_73 := hid (N14_71.out.old hb73)
      clear hb73
      go_wp2_with fail
      refine hK.out _ _ ?_ (fun hHeld => ?_)
      exact H73.out
      clear hK K
      (try simp only [Act.put, zA, zB, zC])
      refine wpAnyH_ready (rs := [12]) (by kernel_rfl) (by simp) ?_
      refine' (AllReadyH.cons (o := _) ?hir74_12 (fun K hK => ?br74_12) AllReadyH.nil)
      case hir74_12 => (simp only [zD, zE, zF]; rfl)
      case br74_12 =>
       go_simp
       refine (rSub _ _ _).mono ?_
       rintro e w75 ⟨rfl, hb75⟩
       have H75 := hid (H73.out.trans (hb75.mono H73.out.size))
       have N14_75 := hid (N14_73.out.old hb75)
       clear hb75
       go_wp2_with fail
       refine hK.out _ _ ?_ (fun hHeld => ?_)
       exact H75.out
       clear hK K
       (try simp only [Act.put, zA, zB, zC])
       refine wpAnyH_ready (rs := [14]) (by kernel_rfl) (by simp) ?_
       refine' (AllReadyH.cons (o := _) ?hir76_14 (fun K hK => ?br76_14) AllReadyH.nil)
       case hir76_14 => (simp only [zD, zE, zF]; rfl)
       case br76_14 =>
        go_simp
        refine (C14.out _).mono ?_
        rintro e w77 ⟨rfl, hb77⟩
        have H77 := hid (H75.out.trans (hb77.mono H75.out.size))
        have N14_77 := hid (N14_75.out.old hb77)
        clear hb77
        go_wp2_with fail
        refine hK.out _ _ ?_ (fun hHeld => ?_)
        exact H77.out
        clear hK K
        (try simp only [Act.put, zA, zB, zC])
        refine wpAnyH_ready (rs := [16]) (by kernel_rfl) (by simp) ?_
        refine' (AllReadyH.cons (o := _) ?hir78_16 (fun K hK => ?br78_16) AllReadyH.nil)
        case hir78_16 => (simp only [zD, zE, zF]; rfl)
        case br78_16 =>
         refine step_of_wp rfl ?_
         refine wp_store_row 54 (.tmp 14) (.tmp 58) rfl _ (cF k) rfl rfl 54 _ N14_77.out (cF_ok _).1 (of.out _) (cF_ok _).2 ?_
         refine hK.out _ _ ?_ (fun hHeld => ?_)
         exact below_row H77.out G14_69.out _
         clear hK K
         (try simp only [Act.put, zA, zB, zC])
         refine wpAnyH_done (by kernel_rfl) ?_ _
         have FZ6 := hid ((Z6.out.old H77.out).rowFar (Nat.ne_of_lt (Nat.lt_of_lt_of_le Z6.out.lt G14_69.out)) (cF k))
         have FX7 := hid ((X7.out.old H77.out).rowFar (Nat.ne_of_lt (Nat.lt_of_lt_of_le X7.out.lt G14_69.out)) (cF k))
         have FX9 := hid ((X9.out.old H77.out).rowFar (Nat.ne_of_lt (Nat.lt_of_lt_of_le X9.out.lt G14_69.out)) (cF k))
         have FX10 := hid ((X10.out.old H77.out).rowFar (Nat.ne_of_lt (Nat.lt_of_lt_of_le X10.out.lt G14_69.out)) (cF k))
         have FX12 := hid ((X12.out.old H77.out).rowFar (Nat.ne_of_lt (Nat.lt_of_lt_of_le X12.out.lt G14_69.out)) (cF k))
         have FX13 := hid ((X13.out.old H77.out).rowFar (Nat.ne_of_lt (Nat.lt_of_lt_of_le X13.out.lt G14_69.out)) (cF k))
         have LL6 := hid (Nat.lt_of_lt_of_le Z6.out.lt G14_69.out)
         have HF := hid (below_row (HB.out.trans (H77.out.mono HB.out.size)) (Nat.le_trans HB.out.size G14_69.out) (cF k))
         have FN14 := hid (N14_77.out.row (cF k))
         clear hHeld
         go_wp2_with fail
         go_meet
         exact ⟨_, rfl, FN14.out, FZ6.out, FX7.out, FX9.out, FX10.out, FX12.out, FX13.out, HF.out, LL6.out⟩
  case br34_15 =>
   go_simp
   refine hK.out _ _ ?_ (fun hHeld => ?_)
   ·exact (HBW13.out.alloc HBW13.out.size _)
   have H80 := hid (HBW13.out.alloc HBW13.out.size (.cells zf 54))
   have N14_80 := hid (alloc_new HBW13.out 54 zf)
   have G14_80 := hid HBW13.out.size
   clear hK K
   (try simp only [Act.put, zA, zB, zC])
   refine wpAnyH_ready (rs := [4]) (by kernel_rfl) (by simp) ?_
   refine' (AllReadyH.cons (o := _) ?hir81_4 (fun K hK => ?br81_4) AllReadyH.nil)
   case hir81_4 => (simp only [zD, zE, zF]; rfl)
   case br81_4 =>
    go_simp
    refine (rAdd _ _ _).mono ?_
    rintro e w82 ⟨rfl, hb82⟩
    have H82 := hid (H80.out.trans (hb82.mono H80.out.size))
    have N14_82 := hid (N14_80.out.old hb82)
    clear hb82
    go_wp2_with fail
    refine hK.out _ _ ?_ (fun hHeld => ?_)
    exact H82.out
    clear hK K
    (try simp only [Act.put, zA, zB, zC])
    refine wpAnyH_ready (rs := [9]) (by kernel_rfl) (by simp) ?_
    refine' (AllReadyH.cons (o := _) ?hir83_9 (fun K hK => ?br83_9) AllReadyH.nil)
    case hir83_9 => (simp only [zD, zE, zF]; rfl)
    case br83_9 =>
     go_simp
     refine (rAdd _ _ _).mono ?_
     rintro e w84 ⟨rfl, hb84⟩
     have H84 := hid (H82.out.trans (hb84.mono H82.out.size))
     have N14_84 := hid (N14_82.out.old hb84)
     clear hb84
     go_wp2_with fail
     refine hK.out _ _ ?_ (fun hHeld => ?_)
     exact H84.out
     clear hK K
     (try simp only [Act.put, zA, zB, zC])
     refine wpAnyH_ready (rs := [10]) (by kernel_rfl) (by simp) ?_
     refine' (AllReadyH.cons (o := _) ?hir85_10 (fun K hK => ?br85_10) AllReadyH.nil)
     case hir85_10 => (simp only [zD, zE, zF]; rfl)
     case br85_10 =>
      go_simp
      refine (rMul _ _ _).mono ?_
      rintro e w86 ⟨rfl, hb86⟩
      have H86 := hid (H84.out.trans (hb86.mono H84.out.size))
      have N14_86 := hid (N14_84.out.old hb86)
      clear hb86
      go_wp2_with fail
      refine hK.out _ _ ?_ (fun hHeld => ?_)
      exact H86.out
      clear hK K
      (try simp only [Act.put, zA, zB, zC])
      refine wpAnyH_ready (rs := [12]) (by kernel_rfl) (by simp) ?_
      refine' (AllReadyH.cons (o := _) ?hir87_12 (fun K hK => ?br87_12) AllReadyH.nil)
      case hir87_12 => (simp only [zD, zE, zF]; rfl)
      case br87_12 =>
       go_simp
       refine (rSub _ _ _).mono ?_
       rintro e w88 ⟨rfl, hb88⟩
       have H88 := hid (H86.out.trans (hb88.mono H86.out.size))
       have N14_88 := hid (N14_86.out.old hb88)
       clear hb88
       go_wp2_with fail
       refine hK.out _ _ ?_ (fun hHeld => ?_)
       exact H88.out
       clear hK K
       (try simp only [Act.put, zA, zB, zC])
       refine wpAnyH_ready (rs := [14]) (by kernel_rfl) (by simp) ?_
       refine' (AllReadyH.cons (o := _) ?hir89_14 (fun K hK => ?br89_14) AllReadyH.nil)
       case hir89_14 => (simp only [zD, zE, zF]; rfl)
       case br89_14 =>
        go_simp
        refine (C14.out _).mono ?_
        rintro e w90 ⟨rfl, hb90⟩
        have H90 := hid (H88.out.trans (hb90.mono H88.out.size))
        have N14_90 := hid (N14_88.out.old hb90)
        clear hb90
        go_wp2_with fail
        refine hK.out _ _ ?_ (fun hHeld => ?_)
        exact H90.out
        clear hK K
        (try simp only [Act.put, zA, zB, zC])
        refine wpAnyH_ready (rs := [16]) (by kernel_rfl) (by simp) ?_
        refine' (AllReadyH.cons (o := _) ?hir91_16 (fun K hK => ?br91_16) AllReadyH.nil)
        case hir91_16 => (simp only [zD, zE, zF]; rfl)
        case br91_16 =>
         refine step_of_wp rfl ?_
         refine wp_store_row 54 (.tmp 14) (.tmp 58) rfl _ (cF k) rfl rfl 54 _ N14_90.out (cF_ok _).1 (of.out _) (cF_ok _).2 ?_
         refine hK.out _ _ ?_ (fun hHeld => ?_)
         exact below_row H90.out G14_80.out _
         clear hK K
         (try simp only [Act.put, zA, zB, zC])
         refine wpAnyH_done (by kernel_rfl) ?_ _
         have FZ6 := hid ((Z6.out.old H90.out).rowFar (Nat.ne_of_lt (Nat.lt_of_lt_of_le Z6.out.lt G14_80.out)) (cF k))
         have FX7 := hid ((X7.out.old H90.out).rowFar (Nat.ne_of_lt (Nat.lt_of_lt_of_le X7.out.lt G14_80.out)) (cF k))
         have FX9 := hid ((X9.out.old H90.out).rowFar (Nat.ne_of_lt (Nat.lt_of_lt_of_le X9.out.lt G14_80.out)) (cF k))
         have FX10 := hid ((X10.out.old H90.out).rowFar (Nat.ne_of_lt (Nat.lt_of_lt_of_le X10.out.lt G14_80.out)) (cF k))
         have FX12 := hid ((X12.out.old H90.out).rowFar (Nat.ne_of_lt (Nat.lt_of_lt_of_le X12.out.lt G14_80.out)) (cF k))
         have FX13 := hid ((X13.out.old H90.out).rowFar (Nat.ne_of_lt (Nat.lt_of_lt_of_le X13.out.lt G14_80.out)) (cF k))
         have LL6 := hid (Nat.lt_of_lt_of_le Z6.out.lt G14_80.out)
         have HF := hid (below_row (HB.out.trans (H90.out.mono HB.out.size)) (Nat.le_trans HB.out.size G14_80.out) (cF k))
         have FN14 := hid (N14_90.out.row (cF k))
         clear hHeld
         go_wp2_with fail
         go_meet
         exact ⟨_, rfl, FN14.out, FZ6.out, FX7.out, FX9.out, FX10.out, FX12.out, FX13.out, HF.out, LL6.out⟩
 case rest =>
 obtain ⟨g14, rfl, kn, k0, k1, k2, k3, k4, k5, kb, kl⟩ := hcut
 generalize wc = W14 at *
 clear A1 A2 Z6 X7 X8 X9 X10 X11 X12 X13 HB zlt
 have X14 := hid kn
 have Z6 := hid k0
 have X7 := hid k1
 have X9 := hid k2
 have X10 := hid k3
 have X12 := hid k4
 have X13 := hid k5
 have HB := hid kb
 have L14 := hid kl
 clear kn k0 k1 k2 k3 k4 k5 kb kl
 (try simp only [Act.put, zA, zB, zC])
 have zlt : Hid (w.heap.size + 1 + 1 + 1 < W14.heap.size) := hid Z6.out.lt
 go_upto_region 9 with fail
 (try simp only [Act.put, zA, zB, zC])
 refine wp_region_held_drew (S := fun V => Far (w.heap.size + 1 + 1 + 1) W14 V) (by kernel_rfl) (Far.of (Below.refl _ _).drew) (fun hHeld => ?_)
 have HBW14 := hid ((Below.refl W14.heap.size W14).drew)
 generalize W14.drew = VW14 at *
 refine' wpAnyH_take (i := 0) (oi := _) (v := .agg (cF a)) ?hit93 ?hst93 ?hft93 ?hrt93 ?hQt93 ?hyt93 ?hSt93 ?_
 case hit93 => (simp only [zD, zE, zF]; rfl)
 case hst93 | hft93 | hrt93 => kernel_rfl
 case hQt93 => exact fun _ _ _ h => h
 case hSt93 => assumption
 case hyt93 =>
  refine Or.inl ⟨by rfl, ?_⟩
  intro W hS
  exact quiet_load_row 54 (.tmp 7) _ rfl 54 (cF a) _ (hS _ _ _ (by have := L7.out; have := L9.out; have := L10.out; have := L12.out; have := L13.out; have := L14.out; omega) X7.out) Tryz.underlying54 rfl (cF_ok _).1 rfl
 (try simp only [Act.put, zA, zB, zC])
 refine' wpAnyH_take (i := 1) (oi := _) (v := .agg (cF g)) ?hit94 ?hst94 ?hft94 ?hrt94 ?hQt94 ?hyt94 ?hSt94 ?_
 case hit94 => (simp only [zD, zE, zF]; rfl)
 case hst94 | hft94 | hrt94 => kernel_rfl
 case hQt94 => exact fun _ _ _ h => h
 case hSt94 => assumption
 case hyt94 =>
  refine Or.inl ⟨by rfl, ?_⟩
  intro W hS
  exact quiet_load_row 54 (.tmp 12) _ rfl 54 (cF g) _ (hS _ _ _ (by have := L7.out; have := L9.out; have := L10.out; have := L12.out; have := L13.out; have := L14.out; omega) X12.out) Tryz.underlying54 rfl (cF_ok _).1 rfl
 (try simp only [Act.put, zA, zB, zC])
 refine' wpAnyH_take (i := 3) (oi := _) (v := .agg (cF k)) ?hit95 ?hst95 ?hft95 ?hrt95 ?hQt95 ?hyt95 ?hSt95 ?_
 case hit95 => (simp only [zD, zE, zF]; rfl)
 case hst95 | hft95 | hrt95 => kernel_rfl
 case hQt95 => exact fun _ _ _ h => h
 case hSt95 => assumption
 case hyt95 =>
  refine Or.inl ⟨by rfl, ?_⟩
  intro W hS
  exact quiet_load_row 54 (.tmp 14) _ rfl 54 (cF k) _ (hS _ _ _ (by have := L7.out; have := L9.out; have := L10.out; have := L12.out; have := L13.out; have := L14.out; omega) X14.out) Tryz.underlying54 rfl (cF_ok _).1 rfl
 (try simp only [Act.put, zA, zB, zC])
 refine' wpAnyH_take (i := 5) (oi := _) (v := .agg (cF a)) ?hit96 ?hst96 ?hft96 ?hrt96 ?hQt96 ?hyt96 ?hSt96 ?_
 case hit96 => (simp only [zD, zE, zF]; rfl)
 case hst96 | hft96 | hrt96 => kernel_rfl
 case hQt96 => exact fun _ _ _ h => h
 case hSt96 => assumption
 case hyt96 =>
  refine Or.inl ⟨by rfl, ?_⟩
  intro W hS
  exact quiet_load_row 54 (.tmp 7) _ rfl 54 (cF a) _ (hS _ _ _ (by have := L7.out; have := L9.out; have := L10.out; have := L12.out; have := L13.out; have := L14.out; omega) X7.out) Tryz.underlying54 rfl (cF_ok _).1 rfl
 (try simp only [Act.put, zA, zB, zC])
 refine' wpAnyH_take (i := 6) (oi := _) (v := .agg (cF h)) ?hit97 ?hst97 ?hft97 ?hrt97 ?hQt97 ?hyt97 ?hSt97 ?_
 case hit97 => (simp only [zD, zE, zF]; rfl)
 case hst97 | hft97 | hrt97 => kernel_rfl
 case hQt97 => exact fun _ _ _ h => h
 case hSt97 => assumption
 case hyt97 =>
  refine Or.inl ⟨by rfl, ?_⟩
  intro W hS
  exact quiet_load_row 54 (.tmp 13) _ rfl 54 (cF h) _ (hS _ _ _ (by have := L7.out; have := L9.out; have := L10.out; have := L12.out; have := L13.out; have := L14.out; omega) X13.out) Tryz.underlying54 rfl (cF_ok _).1 rfl
 (try simp only [Act.put, zA, zB, zC])
 refine' wpAnyH_take (i := 8) (oi := _) (v := .agg (cF e)) ?hit98 ?hst98 ?hft98 ?hrt98 ?hQt98 ?hyt98 ?hSt98 ?_
 case hit98 => (simp only [zD, zE, zF]; rfl)
 case hst98 | hft98 | hrt98 => kernel_rfl
 case hQt98 => exact fun _ _ _ h => h
 case hSt98 => assumption
 case hyt98 =>
  refine Or.inl ⟨by rfl, ?_⟩
  intro W hS
  exact quiet_load_row 54 (.tmp 10) _ rfl 54 (cF e) _ (hS _ _ _ (by have := L7.out; have := L9.out; have := L10.out; have := L12.out; have := L13.out; have := L14.out; omega) X10.out) Tryz.underlying54 rfl (cF_ok _).1 rfl
 (try simp only [Act.put, zA, zB, zC])
 refine' wpAnyH_take (i := 9) (oi := _) (v := .agg (cF c)) ?hit99 ?hst99 ?hft99 ?hrt99 ?hQt99 ?hyt99 ?hSt99 ?_
 case hit99 => (simp only [zD, zE, zF]; rfl)
 case hst99 | hft99 | hrt99 => kernel_rfl
 case hQt99 => exact fun _ _ _ h => h
 case hSt99 => assumption
 case hyt99 =>
  refine Or.inl ⟨by rfl, ?_⟩
  intro W hS
  exact quiet_load_row 54 (.tmp 9) _ rfl 54 (cF c) _ (hS _ _ _ (by have := L7.out; have := L9.out; have := L10.out; have := L12.out; have := L13.out; have := L14.out; omega) X9.out) Tryz.underlying54 rfl (cF_ok _).1 rfl
 (try simp only [Act.put, zA, zB, zC])
 refine' wpAnyH_take (i := 12) (oi := _) (v := .agg (cF g)) ?hit100 ?hst100 ?hft100 ?hrt100 ?hQt100 ?hyt100 ?hSt100 ?_
 case hit100 => (simp only [zD, zE, zF]; rfl)
 case hst100 | hft100 | hrt100 => kernel_rfl
 case hQt100 => exact fun _ _ _ h => h
 case hSt100 => assumption
 case hyt100 =>
  refine Or.inl ⟨by rfl, ?_⟩
  intro W hS
  exact quiet_load_row 54 (.tmp 12) _ rfl 54 (cF g) _ (hS _ _ _ (by have := L7.out; have := L9.out; have := L10.out; have := L12.out; have := L13.out; have := L14.out; omega) X12.out) Tryz.underlying54 rfl (cF_ok _).1 rfl
 (try simp only [Act.put, zA, zB, zC])
 refine' wpAnyH_take (i := 13) (oi := _) (v := .agg (cF h)) ?hit101 ?hst101 ?hft101 ?hrt101 ?hQt101 ?hyt101 ?hSt101 ?_
 case hit101 => (simp only [zD, zE, zF]; rfl)
 case hst101 | hft101 | hrt101 => kernel_rfl
 case hQt101 => exact fun _ _ _ h => h
 case hSt101 => assumption
 case hyt101 =>
  refine Or.inl ⟨by rfl, ?_⟩
  intro W hS
  exact quiet_load_row 54 (.tmp 13) _ rfl 54 (cF h) _ (hS _ _ _ (by have := L7.out; have := L9.out; have := L10.out; have := L12.out; have := L13.out; have := L14.out; omega) X13.out) Tryz.underlying54 rfl (cF_ok _).1 rfl
 (try simp only [Act.put, zA, zB, zC])
 refine wpAnyH_ready (rs := [2]) (by kernel_rfl) (by simp) ?_
 refine' (AllReadyH.cons (o := _) ?hir102_2 (fun K hK => ?br102_2) AllReadyH.nil)
 case hir102_2 => (simp only [zD, zE, zF]; rfl)
 case br102_2 =>
  go_simp
  refine (rMul _ _ _).mono ?_
  rintro e w103 ⟨rfl, hb103⟩
  have H103 := hid (HBW14.out.trans (hb103.mono HBW14.out.size))
  clear hb103
  go_wp2_with fail
  refine hK.out _ _ ?_ (fun hHeld => ?_)
  exact Far.of H103.out
  clear hK K
  (try simp only [Act.put, zA, zB, zC])
  refine wpAnyH_ready (rs := [4]) (by kernel_rfl) (by simp) ?_
  refine' (AllReadyH.cons (o := _) ?hir104_4 (fun K hK => ?br104_4) AllReadyH.nil)
  case hir104_4 => (simp only [zD, zE, zF]; rfl)
  case br104_4 =>
   go_simp
   refine (C63.out _).mono ?_
   rintro e w105 ⟨rfl, hb105⟩
   have H105 := hid (H103.out.trans (hb105.mono H103.out.size))
   clear hb105
   go_wp2_with fail
   refine hK.out _ _ ?_ (fun hHeld => ?_)
   exact Far.of H105.out
   clear hK K
   (try simp only [Act.put, zA, zB, zC])
   refine wpAnyH_ready (rs := [7]) (by kernel_rfl) (by simp) ?_
   refine' (AllReadyH.cons (o := _) ?hir106_7 (fun K hK => ?br106_7) AllReadyH.nil)
   case hir106_7 => (simp only [zD, zE, zF]; rfl)
   case br106_7 =>
    go_simp
    refine (rMul _ _ _).mono ?_
    rintro e w107 ⟨rfl, hb107⟩
    have H107 := hid (H105.out.trans (hb107.mono H105.out.size))
    clear hb107
    go_wp2_with fail
    refine hK.out _ _ ?_ (fun hHeld => ?_)
    exact Far.of H107.out
    clear hK K
    (try simp only [Act.put, zA, zB, zC])
    refine wpAnyH_ready (rs := [10]) (by kernel_rfl) (by simp) ?_
    refine' (AllReadyH.cons (o := _) ?hir108_10 (fun K hK => ?br108_10) AllReadyH.nil)
    case hir108_10 => (simp only [zD, zE, zF]; rfl)
    case br108_10 =>
     go_simp
     refine (rAdd _ _ _).mono ?_
     rintro e w109 ⟨rfl, hb109⟩
     have H109 := hid (H107.out.trans (hb109.mono H107.out.size))
     clear hb109
     go_wp2_with fail
     refine hK.out _ _ ?_ (fun hHeld => ?_)
     exact Far.of H109.out
     clear hK K
     (try simp only [Act.put, zA, zB, zC])
     refine wpAnyH_ready (rs := [11]) (by kernel_rfl) (by simp) ?_
     refine' (AllReadyH.cons (o := _) ?hir110_11 (fun K hK => ?br110_11) AllReadyH.nil)
     case hir110_11 => (simp only [zD, zE, zF]; rfl)
     case br110_11 =>
      go_simp
      refine (C70.out _).mono ?_
      rintro e w111 ⟨rfl, hb111⟩
      have H111 := hid (H109.out.trans (hb111.mono H109.out.size))
      clear hb111
      go_wp2_with fail
      refine hK.out _ _ ?_ (fun hHeld => ?_)
      exact Far.of H111.out
      clear hK K
      (try simp only [Act.put, zA, zB, zC])
      refine wpAnyH_ready (rs := [14]) (by kernel_rfl) (by simp) ?_
      refine' (AllReadyH.cons (o := _) ?hir112_14 (fun K hK => ?br112_14) AllReadyH.nil)
      case hir112_14 => (simp only [zD, zE, zF]; rfl)
      case br112_14 =>
       go_simp
       refine (C73.out _).mono ?_
       rintro e w113 ⟨rfl, hb113⟩
       have H113 := hid (H111.out.trans (hb113.mono H111.out.size))
       clear hb113
       go_wp2_with fail
       refine hK.out _ _ ?_ (fun hHeld => ?_)
       exact Far.of H113.out
       clear hK K
       (try simp only [Act.put, zA, zB, zC])
       refine' wpAnyH_take (i := 15) (oi := _) (v := .agg R) ?hit114 ?hst114 ?hft114 ?hrt114 ?hQt114 ?hyt114 ?hSt114 ?_
       case hit114 => (simp only [zD, zE, zF]; rfl)
       case hst114 | hft114 | hrt114 => kernel_rfl
       case hQt114 => exact fun _ _ _ h => h
       case hSt114 => assumption
       case hyt114 =>
        refine Or.inl ⟨by rfl, ?_⟩
        intro W hS
        exact quiet_build_to 56 #[(0, .tmp 63), (1, .tmp 70), (2, .tmp 73)] rfl [(0, .agg (cF r1)), (1, .agg (cF r2)), (2, .agg (cF r3))] (by simp [Act.eval]) R hBu.out
       (try simp only [Act.put, zA, zB, zC])
       refine wpAnyH_ready (rs := [16]) (by kernel_rfl) (by simp) ?_
       refine' (AllReadyH.cons (o := _) ?hir115_16 (fun K hK => ?br115_16) AllReadyH.nil)
       case hir115_16 => (simp only [zD, zE, zF]; rfl)
       case br115_16 =>
        refine step_of_wp rfl ?_
        refine wp_store_row 56 (.tmp 6) (.tmp 74) rfl (w.heap.size + 1 + 1 + 1) R rfl rfl 56 z (Z6.out.old H113.out) ok.out.1 ok.out.2.2 ok.out.2.1 ?_
        refine hK.out _ _ ?_ (fun hHeld => ?_)
        exact (Far.of H113.out).row _
        clear hK K
        (try simp only [Act.put, zA, zB, zC])
        refine wpAnyH_done (by kernel_rfl) ?_ _
        have HF := hid (below_row (g := w.heap.size + 1 + 1 + 1) (HB.out.trans (H113.out.mono HB.out.size)) (by omega) R)
        have F2 := hid ((Z6.out.old H113.out).row R)
        clear hHeld
        go_wp2_with fail
        refine bodyPost_ret (v := .agg R) ?_ rfl ⟨rfl, HF.out⟩
        exact results_cell_row Tryz.results58 _ _ (w.heap.size + 1 + 1 + 1) 56 _ (0, 0) _ rfl F2.out Tryz.underlying56 rfl ok.out.1
end Go.Proofs.YtcfogpeinjehbaaGreatDoor
end

section
namespace F5
theorem bit_of8 (q i : Nat) : (q / 256 ^ (i / 8) % 256) / 2 ^ (i % 8) % 2 = q / 2 ^ i % 2 := by
 have e1 : 256 ^ (i / 8) = 2 ^ (8 * (i / 8)) := by rw [show 256 = 2 ^ 8 from rfl, ← Nat.pow_mul]
 have e2 : 2 ^ i = 2 ^ (8 * (i / 8)) * 2 ^ (i % 8) := by rw [← Nat.pow_add, Nat.div_add_mod]
 rw [e1, e2, ← Nat.div_div_eq_div_mul]
 generalize q / 2 ^ (8 * (i / 8)) = y
 have hr : i % 8 < 8 := Nat.mod_lt _ (by decide)
 generalize i % 8 = r at hr ⊢
 have h8 : r = 0 ∨ r = 1 ∨ r = 2 ∨ r = 3 ∨ r = 4 ∨ r = 5 ∨ r = 6 ∨ r = 7 := by omega
 rcases h8 with rfl | rfl | rfl | rfl | rfl | rfl | rfl | rfl <;> omega
end F5
namespace Go.Proofs.YtcfogpeinjehbaaGreatDoor
open Go Go.Proofs Go.RowKit F5
/-- These cells stand for this point. -/
def PtAt (p : Pt) (c : Array Value) : Prop := ∃ X Y Z, Rep p X Y Z ∧ c = pV X Y Z
theorem PtAt.ok {p : Pt} {c : Array Value} (h : PtAt p c) : (Tryz.prog.info? 56).map (·.size) = some c.size ∧ c.all (·.oneCell') = true ∧ c.size = 48 := by
 obtain ⟨X, Y, Z, _, rfl⟩ := h
 exact ⟨pV_info _ _ _, pV_one _ _ _, pV_size _ _ _⟩
theorem PtAt.zero : PtAt pzero (pV 0 1 1) := ⟨0, 1, 1, rep_zero, rfl⟩
theorem refPlus_any {p q : Pt} {c1 c2 : Array Value} (h1 : PtAt p c1) (h2 : PtAt q c2) (w : World) :
  Calls Tryz.prog 58 #[.agg c1, .agg c2, .agg (cF dE)] w fun e w' => ∃ c, e = .returned (.agg c) ∧ PtAt (padd p q) c ∧ Below w.heap.size w w' := by
 obtain ⟨X1, Y1, Z1, r1, rfl⟩ := h1
 obtain ⟨X2, Y2, Z2, r2, rfl⟩ := h2
 refine (refAdd_P X1 Y1 Z1 X2 Y2 Z2 dE _ _ _ _ _ _ _ _ _ _ _ rfl rfl rfl rfl rfl rfl rfl rfl rfl rfl rfl w).mono ?_
 rintro e w' ⟨rfl, hb⟩
 exact ⟨_, rfl, ⟨_, _, _, rep_add r1 r2, rfl⟩, hb⟩
theorem PtAt.base : PtAt pbase (pV pbase.x pbase.y 1) := ⟨_, _, _, rep_one pbase, rfl⟩
def TimAt (w : World) (A z dc : Array Value) (g5 : Nat) (o : Array Value) (g6 : Nat) (wr : World) : Prop :=
 Blk wr w.heap.size 56 A ∧ Blk wr (w.heap.size + 1) 56 z ∧ Blk wr g5 54 dc ∧ Blk wr g6 56 o ∧ Below w.heap.size w wr ∧ w.heap.size + 1 < g5 ∧ g5 < g6
theorem TimAt.next {w wr w' : World} {A z dc o : Array Value} {g5 g6 : Nat} (h : TimAt w A z dc g5 o g6 wr) (hb : Below wr.heap.size wr w') : TimAt w A z dc g5 o g6 w' :=
 ⟨h.1.old hb, h.2.1.old hb, h.2.2.1.old hb, h.2.2.2.1.old hb, h.2.2.2.2.1.trans (hb.mono h.2.2.2.2.1.size), h.2.2.2.2.2.1, h.2.2.2.2.2.2⟩
theorem TimAt.row {w wr : World} {A z dc o : Array Value} {g5 g6 : Nat} (h : TimAt w A z dc g5 o g6 wr) (x : Array Value) : TimAt w A z dc g5 x g6 (wr.setRow g6 x) := by
 obtain ⟨h1, h2, h3, h4, h5, h6, h7⟩ := h
 exact ⟨h1.rowFar (by omega) x, h2.rowFar (by omega) x, h3.rowFar (by omega) x, h4.row x, below_row h5 (by omega) x, h6, h7⟩
set_option maxHeartbeats 1000000 in
set_option maxRecDepth 100000 in
theorem refTimes_any {p : Pt} {A : Array Value} (hA : PtAt p A) (v : Nat) (hv : v < 2 ^ 256) (ad : Addr) (c : Nat) (w : World) (hr : Reads w w.heap.size 1 (some ad) 32 (Lib.byteCells (fbytes v))) :
  Calls Tryz.prog 22 #[.agg A, .slice (some ad) 32 c] w fun e w' => ∃ o, e = .returned (.agg o) ∧ PtAt (pmul v p) o ∧ Below w.heap.size w w' := by
 have HA := hid hA
 have HR := hid hr
 obtain ⟨z, hz⟩ : ∃ z, Hid (z = pV 0 0 0) := ⟨_, hid rfl⟩
 have hz0 : ∀ W, (zeroValue 56).run Tryz.prog W = .ok (.agg z) W := by rw [hz.out]; exact zeroP
 obtain ⟨zf, hzf⟩ : ∃ z, Hid (z = cF 0) := ⟨_, hid rfl⟩
 have hzf0 : ∀ W, (zeroValue 54).run Tryz.prog W = .ok (.agg zf) W := by rw [hzf.out]; exact zeroF
 have zs : Hid (z.size = 48) := hid (by rw [hz.out]; exact pV_size _ _ _)
 have okd := hid (cF_ok dE)
 have szd : Hid (zf.size = (cF dE).size) := hid (by rw [hzf.out]; exact cF_sz _ _)
 have CD : Hid (∀ V, Calls Tryz.prog 56 #[] V fun e w' => e = .returned (.agg (cF dE)) ∧ Below V.heap.size V w') := hid refD_any
 have CP : Hid (∀ (q r : Pt) (c1 c2 : Array Value), PtAt q c1 → PtAt r c2 → ∀ V, Calls Tryz.prog 58 #[.agg c1, .agg c2, .agg (cF dE)] V fun e w' => ∃ c, e = .returned (.agg c) ∧ PtAt (padd q r) c ∧ Below V.heap.size V w') := hid fun q r c1 c2 h1 h2 V => refPlus_any h1 h2 V
 have CZ : Hid (∀ V, Calls Tryz.prog 57 #[] V fun e w' => ∃ c, e = .returned (.agg c) ∧ PtAt pzero c ∧ Below V.heap.size V w') := hid fun V => (refZero_any V).mono fun e w' h => ⟨_, h.1, PtAt.zero, h.2⟩
 generalize cF dE = dc at *
 obtain ⟨x1, x2, x3⟩ := two_pts w A z
 clear hz hzf hA hr
 go_enter Tryz.func22, Tryz.ntmps22
 go_upto_region 1 with fail
 generalize (w.alloc (.cells A 56)).alloc (.cells z 56) = W at *
 go_wp2_with fail
 refine (CD.out _).mono ?_
 rintro e w1 ⟨rfl, hb⟩
 have Y1 := hid ((x1.old hb).alloc (.cells dc 54))
 have Y2 := hid ((x2.old hb).alloc (.cells dc 54))
 have HB := hid ((x3.trans (hb.mono x3.size)).alloc (x3.trans (hb.mono x3.size)).size (.cells dc 54))
 have Y5 := hid (Blk.new w1 54 dc)
 have L5 : Hid (w.heap.size + 1 < w1.heap.size) := hid (Nat.lt_of_lt_of_le x2.lt hb.size)
 clear hb x1 x2 x3
 go_upto_region 2 with (first | (refine wpList_store_row rfl 54 (.tmp 5) (.tmp 10) rfl w1.heap.size dc rfl rfl 54 _ (heap_alloc_new w1 _) okd.out.1 szd.out okd.out.2 ?_; rw [setRow_alloc1]))
 generalize w1.alloc (.cells dc 54) = W1 at *
 generalize w1.heap.size = g5 at *
 go_wp2_with fail
 refine (CZ.out _).mono ?_
 rintro e w2 ⟨o0, rfl, ho0, hb⟩
 have hT : TimAt w A z dc g5 o0 w2.heap.size (w2.alloc (.cells o0 56)) :=
  ⟨(Y1.out.old hb).alloc _, (Y2.out.old hb).alloc _, (Y5.out.old hb).alloc _, Blk.new _ _ _, (HB.out.trans (hb.mono HB.out.size)).alloc (HB.out.trans (hb.mono HB.out.size)).size _, L5.out, Nat.lt_of_lt_of_le Y5.out.lt hb.size⟩
 have HT := hid hT
 have HO := hid ho0
 have ok0 := hid ho0.ok
 have sz0 : Hid (z.size = o0.size) := hid (by rw [zs.out, ok0.out.2.2])
 clear hb hT ho0 Y1 Y2 Y5 HB L5
 go_upto_region 3 with (first | (refine wpList_store_row rfl 56 (.tmp 6) (.tmp 11) rfl w2.heap.size o0 rfl rfl 56 _ (heap_alloc_new w2 _) ok0.out.1 sz0.out ok0.out.2.1 ?_; rw [setRow_alloc1]))
 generalize w2.alloc (.cells o0 56) = W2 at *
 generalize w2.heap.size = g6 at *
 (try simp only [Act.put, zA, zB, zC])
 go_wp2_with fail
 have hv256 : Hid (v / 2 ^ 256 = 0) := hid (Nat.div_eq_of_lt hv)
 go_loopg [7] 256 (fun gg iv wr => ∃ (j : Nat) (o : Array Value), iv = .int .i64 ((j : Int) - 1) ∧ gg = j ∧ j ≤ 256 ∧ PtAt (pmul (v / 2 ^ j) p) o ∧ TimAt w A z dc g5 o g6 wr)
 case atStart => exact ⟨256, o0, rfl, rfl, by omega, by rw [hv256.out]; exact HO.out, HT.out⟩
 case round =>
  obtain ⟨j, o, hiv, hg, hj, hO, hT⟩ := hrel
  clear HT HO ok0 sz0
  have HT := hid hT
  have HO := hid hO
  have oko := hid hO.ok
  clear hT hO
  by_cases hlt : 0 < j
  ·obtain ⟨i, rfl⟩ : ∃ i, j = i + 1 := ⟨j - 1, by omega⟩
   rw [show ((i + 1 : Nat) : Int) - 1 = (i : Int) by omega] at hiv
   subst hiv
   have HG := hid hg
   have hil : i < 256 := by omega
   obtain ⟨d, hd⟩ := named (i / 8)
   obtain ⟨r, hr⟩ := named (i % 8)
   have hd32 : d < 32 := by rw [hd.out]; omega
   have d1 : (i : Int) / 8 = (d : Int) := by rw [hd.out]; omega
   have d2 : (i : Int).tdiv 8 = (d : Int) := by rw [Int.tdiv_eq_ediv_of_nonneg (by omega)]; omega
   have d3 : (i : Int) % 8 = (r : Int) := by rw [hr.out]; omega
   have d4 : (i : Int).tmod 8 = (r : Int) := by rw [Int.tmod_eq_emod_of_nonneg (by omega)]; omega
   have dw : IntKind.i64.wrap (d : Int) = (d : Int) := IntWalk.i64_in _ (by omega)
   have iw : IntKind.i64.wrap ((i : Int) - 1) = (i : Int) - 1 := IntWalk.i64_in _ (by omega)
   have HJ := hid hj
   clear hj hg hlt
   go_wp2_with (first | (refine wpList_load_row rfl 56 (.tmp 6) rfl g6 rfl 56 o (0, 0) _ HT.out.2.2.2.1 Tryz.underlying56 rfl oko.out.1 ?_) |
    (refine wpList_load_row rfl 54 (.tmp 5) rfl g5 rfl 54 dc (0, 0) _ HT.out.2.2.1 Tryz.underlying54 rfl okd.out.1 ?_))
   refine (CP.out _ _ _ _ HO.out HO.out _).mono ?_
   rintro e w3 ⟨cb, rfl, hcb, hb1⟩
   have HT1 := hid (HT.out.next hb1)
   clear hb1
   have HCB := hid hcb
   have okb := hid hcb.ok
   have szb : Hid (o.size = cb.size) := hid (by rw [oko.out.2.2, okb.out.2.2])
   have ht2 := HT1.out.row cb
   clear hcb
   go_upto_region 7 with (first | (refine wpList_store_row rfl 56 (.tmp 6) (.tmp 19) rfl g6 cb rfl rfl 56 o HT1.out.2.2.2.1 okb.out.1 szb.out okb.out.2.1 ?_))
   generalize w3.setRow g6 cb = W3 at *
   obtain ⟨ad', hA', hadb, hcell⟩ := (HR.out.below ht2.2.2.2.2.1).2 (by omega)
   injection hA' with hA'
   subst hA'
   have hx := hcell d _ (show (Lib.byteCells (fbytes v))[d]? = some (.int .u8 (((fbytes v).getD d 0).toNat : Int)) by
    have h1 : d < (fbytes v).length := by rw [fbytes_length]; omega
    simp [Lib.byteCells, List.getD, List.getElem?_eq_getElem h1])
   obtain ⟨x, hxx⟩ := named ((fbytes v).getD d 0).toNat
   rw [← hxx.out] at hx
   have hxB : x < 256 := by rw [hxx.out]; exact ((fbytes v).getD d 0).toNat_lt
   have HB3 : Hid (x / 2 ^ r % 2 = v / 2 ^ i % 2) := hid (by rw [hxx.out, fbytes_get v d hd32, hr.out, hd.out]; exact bit_of8 v i)
   have HT2 := hid ht2
   clear ht2 HT1 hcell
   go_wp2_with fail
   clear hx
   (try simp only [Act.put, zA, zB, zC])
   go_loopg [8, 9] r (fun gg bv kv w1 => ∃ k y : Nat, bv = .int .u8 (y : Int) ∧ kv = .int .i64 (k : Int) ∧ gg + k = r ∧ y = x / 2 ^ k ∧ TimAt w A z dc g5 cb g6 w1)
   case atStart => exact ⟨0, x, rfl, rfl, rfl, by simp, HT2.out⟩
   case round =>
    obtain ⟨k, y, rfl, rfl, hgk, hy, hT1⟩ := hrel
    clear HT2
    have HT1 := hid hT1
    have HY := hid hy
    clear hT1
    have hyl : y < 256 := by rw [hy]; exact Nat.lt_of_le_of_lt (Nat.div_le_self _ _) hxB
    clear hy
    by_cases hk : k < r
    ·obtain ⟨y2, hy2⟩ := named (y / 2)
     have e1' : (y : Int) / 2 = (y2 : Int) := by rw [hy2.out]; omega
     have e2' : (y : Int).tdiv 2 = (y2 : Int) := by rw [Int.tdiv_eq_ediv_of_nonneg (by omega)]; omega
     have e3' : IntKind.u8.wrap (y2 : Int) = (y2 : Int) := by rw [IntKind.wrap_u8', hy2.out]; omega
     have hr8 : r < 8 := by rw [hr.out]; exact Nat.mod_lt _ (by decide)
     go_wp2
     go_roundg (gk - 1)
     case measure => omega
     case rel => exact ⟨k + 1, y2, rfl, by go_num, by omega, by rw [hy2.out, HY.out, Nat.pow_succ, Nat.div_div_eq_div_mul], HT1.out⟩
    ·obtain rfl : k = r := by omega
     obtain ⟨b, hb⟩ := named (y % 2)
     have e1' : (y : Int) % 2 = (b : Int) := by rw [hb.out]; omega
     have e2' : (y : Int).tmod 2 = (b : Int) := by rw [Int.tmod_eq_emod_of_nonneg (by omega)]; omega
     have e3' : IntKind.u8.wrap (b : Int) = (b : Int) := by rw [IntKind.wrap_u8', hb.out]; omega
     have hbit : Hid (v / 2 ^ i % 2 = b) := hid (by rw [hb.out, HY.out, HB3.out])
     have hb01 : b = 0 ∨ b = 1 := by rw [hb.out]; omega
     clear HB3
     rcases hb01 with hb0 | hb0
     ·have E : Hid (PtAt (pmul (v / 2 ^ i) p) cb) := hid (by
       rw [pmul_bit, if_neg (by rw [hbit.out, hb0]; decide)]; exact HCB.out)
      clear hbit hb
      subst hb0
      go_wp2_with fail
      go_roundg i
      case measure => have := HG.out; omega
      case rel => exact ⟨i, cb, rfl, rfl, by omega, E.out, HT1.out⟩
     ·have hpb : Hid (pmul (v / 2 ^ i) p = padd (padd (pmul (v / 2 ^ (i + 1)) p) (pmul (v / 2 ^ (i + 1)) p)) p) := hid (by
       rw [pmul_bit, if_pos (by rw [hbit.out, hb0])])
      clear hbit hb
      subst hb0
      have okA := hid HA.out.ok
      go_wp2_with (first | (refine wpList_load_row rfl 56 (.tmp 6) rfl g6 rfl 56 cb (0, 0) _ HT1.out.2.2.2.1 Tryz.underlying56 rfl okb.out.1 ?_) |
       (refine wpList_load_row rfl 56 (.tmp 2) rfl w.heap.size rfl 56 A (0, 0) _ HT1.out.1 Tryz.underlying56 rfl okA.out.1 ?_) |
       (refine wpList_load_row rfl 54 (.tmp 5) rfl g5 rfl 54 dc (0, 0) _ HT1.out.2.2.1 Tryz.underlying54 rfl okd.out.1 ?_))
      refine (CP.out _ _ _ _ HCB.out HA.out _).mono ?_
      rintro e w4 ⟨cd, rfl, hcd, hb1⟩
      have HT3 := hid (HT1.out.next hb1)
      clear hb1
      have HCD := hid hcd
      have okc := hid hcd.ok
      have szc : Hid (cb.size = cd.size) := hid (by rw [okb.out.2.2, okc.out.2.2])
      have HT4 := hid (HT3.out.row cd)
      clear hcd
      go_wp2_with (first | (refine wpList_store_row rfl 56 (.tmp 6) (.tmp 39) rfl g6 cd rfl rfl 56 cb HT3.out.2.2.2.1 okc.out.1 szc.out okc.out.2.1 ?_))
      go_roundg i
      case measure => have := HG.out; omega
      case rel => exact ⟨i, cd, rfl, rfl, by omega, by rw [hpb.out]; exact HCD.out, HT4.out⟩
  ·obtain rfl : j = 0 := by omega
   rw [show ((0 : Nat) : Int) - 1 = -1 by omega] at hiv
   subst hiv
   have HF := hid (below_row HT.out.2.2.2.2.1 (Nat.le_succ _) o)
   have F2 := hid (HT.out.2.1.row o)
   have szo : Hid (z.size = o.size) := hid (by rw [zs.out, oko.out.2.2])
   have HE : Hid (PtAt (pmul v p) o) := hid (by have := HO.out; rwa [Nat.pow_zero, Nat.div_one] at this)
   clear hg hj hlt
   go_wp2_with (first | (refine wpList_load_row rfl 56 (.tmp 6) rfl g6 rfl 56 o (0, 0) _ HT.out.2.2.2.1 Tryz.underlying56 rfl oko.out.1 ?_) |
    (refine wpList_store_row rfl 56 (.tmp 4) (.tmp 40) rfl (w.heap.size + 1) o rfl rfl 56 z HT.out.2.1 oko.out.1 szo.out oko.out.2.1 ?_))
   refine bodyPost_ret (v := .agg o) ?_ rfl ⟨o, rfl, HE.out, HF.out⟩
   exact results_cell_row Tryz.results22 _ _ (w.heap.size + 1) 56 o (0, 0) _ rfl F2.out Tryz.underlying56 rfl oko.out.1
end Go.Proofs.YtcfogpeinjehbaaGreatDoor
end

section
namespace Go.Proofs.YtcfogpeinjehbaaGreatDoor
open Go Go.Proofs Go.RowKit F5
theorem three_new (w : World) (a b c : Array Value) (T1 T2 T3 : TypeId) : Blk (((w.alloc (.cells a T1)).alloc (.cells b T2)).alloc (.cells c T3)) w.heap.size T1 a ∧
  Blk (((w.alloc (.cells a T1)).alloc (.cells b T2)).alloc (.cells c T3)) (w.heap.size + 1) T2 b ∧
  Blk (((w.alloc (.cells a T1)).alloc (.cells b T2)).alloc (.cells c T3)) (w.heap.size + 1 + 1) T3 c ∧
  Below w.heap.size w (((w.alloc (.cells a T1)).alloc (.cells b T2)).alloc (.cells c T3)) := by
 have s1 : (w.alloc (.cells a T1)).heap.size = w.heap.size + 1 := by simp
 have s2 : ((w.alloc (.cells a T1)).alloc (.cells b T2)).heap.size = w.heap.size + 1 + 1 := by simp
 refine ⟨((Blk.new w _ a).alloc _).alloc _, ?_, ?_, (((Below.refl _ _).alloc (Nat.le_refl _) _).alloc (by simp) _).alloc (by simp; omega) _⟩
 ·rw [← s1]; exact (Blk.new _ _ b).alloc _
 ·rw [← s2]; exact Blk.new _ _ c
set_option maxHeartbeats 2000000 in
set_option maxRecDepth 100000 in
theorem refAddPt_any {p q : Pt} {A B : Array Value} (h1 : PtAt p A) (h2 : PtAt q B) (w : World) :
  Calls Tryz.prog 33 #[.agg A, .agg B] w fun e w' => ∃ c, e = .returned (.agg c) ∧ PtAt (padd p q) c ∧ Below w.heap.size w w' := by
 have okA := hid h1.ok
 have okB := hid h2.ok
 obtain ⟨R, hR, CP⟩ : ∃ R, PtAt (padd p q) R ∧ ∀ V, Calls Tryz.prog 58 #[.agg A, .agg B, .agg (cF dE)] V fun e w' => e = .returned (.agg R) ∧ Below V.heap.size V w' := by
  obtain ⟨X1, Y1, Z1, r1, rfl⟩ := h1
  obtain ⟨X2, Y2, Z2, r2, rfl⟩ := h2
  exact ⟨_, ⟨_, _, _, rep_add r1 r2, rfl⟩, fun V => refAdd_P X1 Y1 Z1 X2 Y2 Z2 dE _ _ _ _ _ _ _ _ _ _ _ rfl rfl rfl rfl rfl rfl rfl rfl rfl rfl rfl V⟩
 have CP := hid CP
 have HR := hid hR
 have ok := hid hR.ok
 clear hR h1 h2
 obtain ⟨z, hz⟩ : ∃ z, Hid (z = pV 0 0 0) := ⟨_, hid rfl⟩
 have hz0 : ∀ W, (zeroValue 56).run Tryz.prog W = .ok (.agg z) W := by rw [hz.out]; exact zeroP
 have zs : Hid (z.size = R.size) := hid (by rw [hz.out, pV_size, ok.out.2.2])
 have CD : Hid (∀ V, Calls Tryz.prog 56 #[] V fun e w' => e = .returned (.agg (cF dE)) ∧ Below V.heap.size V w') := hid refD_any
 generalize cF dE = dc at *
 obtain ⟨x1, x2, x3, x4⟩ := three_new w A B z 56 56 56
 clear hz
 go_enter Tryz.func33, Tryz.ntmps33
 go_upto_region 1 with fail
 generalize ((w.alloc (.cells A 56)).alloc (.cells B 56)).alloc (.cells z 56) = W at *
 have X1 := hid x1
 have X2 := hid x2
 have X3 := hid x3
 have HB := hid x4
 clear x1 x2 x3 x4
 (try simp only [Act.put, zA, zB, zC])
 refine wp_region_held_drew (S := fun V => Far (w.heap.size + 1 + 1) W V) (by kernel_rfl) (Far.of (Below.refl _ _).drew) (fun hHeld => ?_)
 have HBW := hid ((Below.refl W.heap.size W).drew)
 generalize W.drew = VW at *
 refine' wpAnyH_take (i := 0) (oi := _) (v := .agg A) ?hit1 ?hst1 ?hft1 ?hrt1 ?hQt1 ?hyt1 ?hSt1 ?_
 case hit1 => (simp only [zD, zE, zF]; rfl)
 case hst1 | hft1 | hrt1 => kernel_rfl
 case hQt1 => exact fun _ _ _ h => h
 case hSt1 => assumption
 case hyt1 =>
  refine Or.inl ⟨by rfl, ?_⟩
  intro W hS
  exact quiet_load_row 56 (.tmp 2) _ rfl 56 A _ (hS _ _ _ (by omega) X1.out) Tryz.underlying56 rfl okA.out.1 rfl
 (try simp only [Act.put, zA, zB, zC])
 refine' wpAnyH_take (i := 1) (oi := _) (v := .agg B) ?hit2 ?hst2 ?hft2 ?hrt2 ?hQt2 ?hyt2 ?hSt2 ?_
 case hit2 => (simp only [zD, zE, zF]; rfl)
 case hst2 | hft2 | hrt2 => kernel_rfl
 case hQt2 => exact fun _ _ _ h => h
 case hSt2 => assumption
 case hyt2 =>
  refine Or.inl ⟨by rfl, ?_⟩
  intro W hS
  exact quiet_load_row 56 (.tmp 3) _ rfl 56 B _ (hS _ _ _ (by omega) X2.out) Tryz.underlying56 rfl okB.out.1 rfl
 (try simp only [Act.put, zA, zB, zC])
 refine wpAnyH_ready (rs := [2]) (by kernel_rfl) (by simp) ?_
 refine' (AllReadyH.cons (o := _) ?hir3_2 (fun K hK => ?br3_2) AllReadyH.nil)
 case hir3_2 => (simp only [zD, zE, zF]; rfl)
 case br3_2 =>
  go_simp
  refine (CD.out _).mono ?_
  rintro e w4 ⟨rfl, hb4⟩
  have H4 := hid (HBW.out.trans (hb4.mono HBW.out.size))
  clear hb4
  go_wp2_with fail
  refine hK.out _ _ ?_ (fun hHeld => ?_)
  exact Far.of H4.out
  clear hK K
  (try simp only [Act.put, zA, zB, zC])
  refine wpAnyH_ready (rs := [3]) (by kernel_rfl) (by simp) ?_
  refine' (AllReadyH.cons (o := _) ?hir5_3 (fun K hK => ?br5_3) AllReadyH.nil)
  case hir5_3 => (simp only [zD, zE, zF]; rfl)
  case br5_3 =>
   go_simp
   refine (CP.out _).mono ?_
   rintro e w6 ⟨rfl, hb6⟩
   have H6 := hid (H4.out.trans (hb6.mono H4.out.size))
   clear hb6
   go_wp2_with fail
   refine hK.out _ _ ?_ (fun hHeld => ?_)
   exact Far.of H6.out
   clear hK K
   (try simp only [Act.put, zA, zB, zC])
   refine wpAnyH_ready (rs := [4]) (by kernel_rfl) (by simp) ?_
   refine' (AllReadyH.cons (o := _) ?hir7_4 (fun K hK => ?br7_4) AllReadyH.nil)
   case hir7_4 => (simp only [zD, zE, zF]; rfl)
   case br7_4 =>
    refine step_of_wp rfl ?_
    refine wp_store_row 56 (.tmp 4) (.tmp 8) rfl (w.heap.size + 1 + 1) R rfl rfl 56 z (X3.out.old H6.out) ok.out.1 zs.out ok.out.2.1 ?_
    refine hK.out _ _ ?_ (fun hHeld => ?_)
    exact (Far.of H6.out).row _
    clear hK K
    (try simp only [Act.put, zA, zB, zC])
    refine wpAnyH_done (by kernel_rfl) ?_ _
    have HF := hid (below_row (g := w.heap.size + 1 + 1) (HB.out.trans (H6.out.mono HB.out.size)) (by omega) R)
    have F2 := hid ((X3.out.old H6.out).row R)
    clear hHeld
    go_wp2_with fail
    refine bodyPost_ret (v := .agg R) ?_ rfl ⟨R, rfl, HR.out, HF.out⟩
    exact results_cell_row Tryz.results33 _ _ (w.heap.size + 1 + 1) 56 _ (0, 0) _ rfl F2.out Tryz.underlying56 rfl ok.out.1
end Go.Proofs.YtcfogpeinjehbaaGreatDoor
end

section
namespace Go.Proofs.YtcfogpeinjehbaaGreatDoor
open Go Go.Proofs Go.RowKit F5
theorem fbytes_at (n i : Nat) (h : i < 32) : (fbytes n)[i]? = some (UInt8.ofNat (n / 256 ^ i % 256)) := by
 have h1 : i < (fbytes n).length := by rw [fbytes_length]; exact h
 rw [List.getElem?_eq_getElem h1]
 have h2 := fbytes_get n i h
 rw [List.getD_eq_getElem?_getD, List.getElem?_eq_getElem h1] at h2
 congr 1
 apply UInt8.toNat_inj.1
 have h3 : ((fbytes n)[i]).toNat = n / 256 ^ i % 256 := h2
 rw [h3, UInt8.toNat_ofNat']
 exact (Nat.mod_eq_of_lt (Nat.mod_lt _ (by decide))).symm
theorem fbytes_top {y : Nat} (hy : y < 2 ^ 255) (b : UInt8) (hb : b.toNat = y / 256 ^ 31 % 256 + 128) : (fbytes y).set 31 b = fbytes (y + 2 ^ 255) := by
 apply List.ext_getElem?
 intro i
 by_cases hi : i < 32
 ·rw [List.getElem?_set]
  split
  ·rename_i h31
   subst h31
   rw [if_pos (by rw [fbytes_length]; omega), fbytes_at _ _ (by omega)]
   congr 1
   apply UInt8.toNat_inj.1
   rw [hb, UInt8.toNat_ofNat']
   have e1 : (256 : Nat) ^ 31 = 2 ^ 248 := by decide
   rw [e1]
   omega
  ·rename_i h31
   rw [fbytes_at _ _ hi, fbytes_at _ _ hi]
   congr 2
   have hi2 : i < 31 := by omega
   have e1 : 2 ^ 255 = 256 ^ i * (256 * 2 ^ (247 - 8 * i)) := by
    rw [show (256 : Nat) ^ i = 2 ^ (8 * i) by rw [show 256 = 2 ^ 8 from rfl, ← Nat.pow_mul], show (256 : Nat) = 2 ^ 8 from rfl, ← Nat.pow_add, ← Nat.pow_add]
    congr 1; omega
   rw [e1, Nat.add_mul_div_left _ _ (Nat.pow_pos (by decide)), Nat.add_mul_mod_self_left]
 ·rw [List.getElem?_eq_none (by rw [List.length_set, fbytes_length]; omega), List.getElem?_eq_none (by rw [fbytes_length]; omega)]
theorem byteCells_set (l : List UInt8) (k : Nat) (b : UInt8) : (Lib.byteCells l).set k (.int .u8 (b.toNat : Int)) = Lib.byteCells (l.set k b) := by
 simp [Lib.byteCells, List.map_set]
theorem enc_odd {p : Pt} (h : p.x.val % 2 = 1) : enc p = p.y.val + 2 ^ 255 := by unfold enc; rw [h, Nat.mul_one]
theorem enc_even {p : Pt} (h : p.x.val % 2 = 0) : enc p = p.y.val := by unfold enc; rw [h, Nat.mul_zero, Nat.add_zero]
theorem own_mono2 {w : World} {base base' n : Nat} {e : TypeId} {v : Value} {xs : List Value} (h : w.ownsRow base e 1 v n xs) (hb : base' ≤ base) : w.ownsRow base' e 1 v n xs := by
 refine ⟨h.1, ?_⟩
 rcases h.2 with h' | ⟨g, cap, cur, e1, e2, rest⟩
 ·exact .inl h'
 ·exact .inr ⟨g, cap, cur, e1, by omega, rest⟩
theorem own_keep2 {w w' : World} {base n : Nat} {e : TypeId} {v : Value} {xs : List Value} (h : w.ownsRow base e 1 v n xs) (hb : Below w.heap.size w w') : w'.ownsRow base e 1 v n xs := by
 refine ⟨h.1, ?_⟩
 rcases h.2 with h' | ⟨g, cap, cur, e1, e2, e3, rest⟩
 ·exact .inl h'
 ·refine .inr ⟨g, cap, cur, e1, e2, (hb.block g ?_).trans e3, rest⟩
  rcases Nat.lt_or_ge g w.heap.size with hl | hl
  ·exact hl
  ·rw [Array.getElem?_eq_none hl] at e3; cases e3
theorem cF_zero_cell (a : Fp) : ∃ y : Nat, (cF a)[0]? = some (.int .u64 (y : Int)) ∧ y % 2 = a.val % 2 ∧ y < 65536 := by
 refine ⟨(digs B a.val 16).getD 0 0, u64s_get _ _ (by rw [digs_length]; omega), ?_, ?_⟩
 ·rw [digs_at (by omega), Nat.pow_zero, Nat.div_one]; unfold B; omega
 ·rw [digs_at (by omega)]; exact Nat.mod_lt _ (by decide)
set_option maxHeartbeats 2000000 in
set_option maxRecDepth 100000 in
theorem refPtBytes_any {p : Pt} {A : Array Value} (hA : PtAt p A) (w : World) :
  Calls Tryz.prog 23 #[.agg A] w fun e w' => ∃ s, e = .returned s ∧ w'.ownsRow w.heap.size 5 1 s 32 (Lib.byteCells (fbytes (enc p))) ∧ Below w.heap.size w w' := by
 obtain ⟨X, Y, Z, hrep, rfl⟩ := hA
 obtain ⟨hx, hy⟩ := rep_x hrep
 have CI := hid (rInv Z)
 generalize finv Z = Zi at *
 have CX : Hid (∀ V, Calls Tryz.prog 53 #[.agg (cF X), .agg (cF Zi)] V fun e w' => e = .returned (.agg (cF p.x)) ∧ Below V.heap.size V w') := hid fun V => by rw [← hx]; exact rMul _ _ V
 have CY : Hid (∀ V, Calls Tryz.prog 53 #[.agg (cF Y), .agg (cF Zi)] V fun e w' => e = .returned (.agg (cF p.y)) ∧ Below V.heap.size V w') := hid fun V => by rw [← hy]; exact rMul _ _ V
 have CB : Hid (∀ V, Calls Tryz.prog 59 #[.agg (cF p.y)] V (BytesEnd p.y.val V)) := hid fun V => refBytes_any p.y.val V
 have KX := hid (fun (V : World) g T (h : Blk V g T (pV X Y Z)) => pV_x h)
 have KY := hid (fun (V : World) g T (h : Blk V g T (pV X Y Z)) => pV_y h)
 have KZ := hid (fun (V : World) g T (h : Blk V g T (pV X Y Z)) => pV_z h)
 generalize pV X Y Z = A at *
 clear hrep hx hy
 obtain ⟨zf, hzf⟩ : ∃ z, Hid (z = cF 0) := ⟨_, hid rfl⟩
 have hzf0 : ∀ W, (zeroValue 54).run Tryz.prog W = .ok (.agg zf) W := by rw [hzf.out]; exact zeroF
 have szi : Hid (zf.size = (cF Zi).size) := hid (by rw [hzf.out]; exact cF_sz _ _)
 have X1 := hid (Blk.new w 56 A)
 have HB := hid ((Below.refl w.heap.size w).alloc (Nat.le_refl _) (.cells A 56))
 obtain ⟨y0, hy0, hy2, hyl⟩ := cF_zero_cell p.x
 have hix : ∀ W, (Instr.index 54 (.agg (cF p.x)) (.int .i64 0)).run Tryz.prog W = .ok (.int .u64 (y0 : Int)) W := run_index_one (P := Tryz.prog) Tryz.underlying54 Tryz.isAgg40 Tryz.sizeOf40 (cF p.x) 0 _ (by omega) hy0
 have HY2 := hid hy2
 clear hzf hy0 hy2
 go_enter Tryz.func23, Tryz.ntmps23
 go_upto_region 1 with fail
 generalize w.alloc (.cells A 56) = W at *
 go_upto_region 2 with (first | (refine wpList_load_at rfl 54 (.tmp 5) rfl w.heap.size 32 rfl 40 16 (cF Z) Tryz.underlying54 (cF_ok _).1 (KZ.out _ _ _ X1.out) ?_))
 refine (CI.out _).mono ?_
 rintro e w1 ⟨rfl, hb⟩
 have X1 := hid ((X1.out.old hb).alloc (.cells (cF Zi) 54))
 have HB := hid ((HB.out.trans (hb.mono HB.out.size)).alloc (HB.out.trans (hb.mono HB.out.size)).size (.cells (cF Zi) 54))
 have X3 := hid (Blk.new w1 54 (cF Zi))
 clear hb
 go_upto_region 2 with (first | (refine wpList_store_row rfl 54 (.tmp 3) (.tmp 7) rfl w1.heap.size (cF Zi) rfl rfl 54 _ (heap_alloc_new w1 _) (cF_ok _).1 szi.out (cF_ok _).2 ?_; rw [setRow_alloc1]))
 generalize w1.alloc (.cells (cF Zi) 54) = W1 at *
 generalize w1.heap.size = g3 at *
 go_upto_region 3 with (first | (refine wpList_load_at rfl 54 (.tmp 8) rfl w.heap.size 16 rfl 40 16 (cF Y) Tryz.underlying54 (cF_ok _).1 (KY.out _ _ _ X1.out) ?_) |
  (refine wpList_load_row rfl 54 (.tmp 3) rfl g3 rfl 54 (cF Zi) (0, 0) _ X3.out Tryz.underlying54 rfl (cF_ok _).1 ?_))
 refine (CY.out _).mono ?_
 rintro e w2 ⟨rfl, hb⟩
 have X1 := hid (X1.out.old hb)
 have X3 := hid (X3.out.old hb)
 have HB := hid (HB.out.trans (hb.mono HB.out.size))
 clear hb
 go_upto_region 3 with fail
 refine (CB.out _).mono ?_
 rintro e w3 ⟨s, rfl, hown, hb⟩
 have X1 := hid (X1.out.old hb)
 have X3 := hid (X3.out.old hb)
 have HW2 := hid HB.out.size
 have HB := hid (HB.out.trans (hb.mono HB.out.size))
 clear hb
 obtain ⟨g, cap, hs, hgb, hgl⟩ := hown.form (by omega)
 subst hs
 have hown := own_mono2 hown (Nat.le_trans HW2.out (Nat.le_succ _))
 have HO := hid hown
 clear hown
 go_upto_region 3 with fail
 go_wp2_with (first | (refine wpList_load_at rfl 54 (.tmp 13) rfl w.heap.size 0 rfl 40 16 (cF X) Tryz.underlying54 (cF_ok _).1 (KX.out _ _ _ X1.out) ?_) |
  (refine wpList_load_row rfl 54 (.tmp 3) rfl g3 rfl 54 (cF Zi) (0, 0) _ X3.out Tryz.underlying54 rfl (cF_ok _).1 ?_))
 refine (CX.out _).mono ?_
 rintro e w4 ⟨rfl, hb⟩
 have hown := own_keep2 HO.out hb
 have HB := hid (HB.out.trans (hb.mono HB.out.size))
 clear hb X1 X3 HO
 have hcell := hown.cellAt 31 (by omega)
 have hfz := hown.frozenAt 31
 obtain ⟨x, hxx⟩ := named (p.y.val / 256 ^ 31 % 256)
 rw [show (Lib.byteCells (fbytes p.y.val))[31]? = some (.int .u8 (x : Int)) by
  have h1 := fbytes_at p.y.val 31 (by omega)
  rw [hxx.out]
  simp [Lib.byteCells, h1]] at hcell
 have hx128 : x < 128 := by
  have h1 := p.y.isLt
  have h2 := P_255
  have e1 : (256 : Nat) ^ 31 = 2 ^ 248 := by decide
  rw [hxx.out, e1]
  omega
 have hgw : w.heap.size ≤ g := Nat.le_trans HW2.out (Nat.le_of_succ_le hgb)
 obtain ⟨nx, hnx⟩ := named (x + 128)
 have cw : IntKind.u8.wrap ((x : Int) + 128) = (nx : Int) := by rw [IntKind.wrap_u8', hnx.out]; omega
 obtain ⟨b, hb⟩ := named (y0 % 2)
 have e1' : (y0 : Int) % 2 = (b : Int) := by rw [hb.out]; omega
 have e2' : (y0 : Int).tmod 2 = (b : Int) := by rw [Int.tmod_eq_emod_of_nonneg (by omega)]; omega
 have e3' : IntKind.u64.wrap (b : Int) = (b : Int) := by rw [IntKind.wrap_u64, hb.out]; omega
 have hbit : Hid (p.x.val % 2 = b) := hid (by rw [hb.out, HY2.out])
 have hb01 : b = 0 ∨ b = 1 := by rw [hb.out]; omega
 have HO := hid hown
 clear hown
 rcases hb01 with hb0 | hb0
 ·have E : Hid (enc p = p.y.val) := hid (enc_even (by rw [hbit.out, hb0]))
  clear hbit hb
  subst hb0
  go_wp2_with fail
  go_ret
  exact ⟨_, rfl, by rw [E.out]; exact HO.out, HB.out⟩
 ·have E : Hid (fbytes (enc p) = (fbytes p.y.val).set 31 (UInt8.ofNat nx)) := hid (by
   rw [enc_odd (by rw [hbit.out, hb0])]
   refine (fbytes_top (Nat.lt_trans p.y.isLt P_255) _ ?_).symm
   rw [UInt8.toNat_ofNat', hnx.out, hxx.out]
   have := hx128
   rw [hxx.out] at this
   omega)
  have hst := (HO.out.stored 31 (.int .u8 (nx : Int))).1
  have hbl : Below w.heap.size w (w4.setCell ⟨g, 31, none⟩ (.int .u8 (nx : Int))) := HB.out.setCell hgw _
  have HS : Hid ((w4.setCell ⟨g, 31, none⟩ (.int .u8 (nx : Int))).ownsRow w.heap.size 5 1 (.slice (some ⟨g, 0, none⟩) 32 cap) 32 (Lib.byteCells (fbytes (enc p)))) := hid (by
   rw [E.out, ← byteCells_set]
   have hn : (UInt8.ofNat nx).toNat = nx := by rw [UInt8.toNat_ofNat', hnx.out]; omega
   rw [hn]; exact hst)
  have HL := hid hbl
  clear hbit hb hst hbl
  subst hb0
  go_wp2_with fail
  go_ret
  exact ⟨_, rfl, HS.out, HL.out⟩
end Go.Proofs.YtcfogpeinjehbaaGreatDoor
end

section
namespace Go.Proofs.YtcfogpeinjehbaaGreatDoor
open Go Go.Proofs Go.RowKit F5
theorem fbytes_cut {v : Nat} (hv : v < 2 ^ 256) (b : UInt8) (hb : b.toNat = v / 256 ^ 31 % 256 % 128) : (fbytes v).set 31 b = fbytes (v % 2 ^ 255) := by
 apply List.ext_getElem?
 intro i
 by_cases hi : i < 32
 ·rw [List.getElem?_set]
  split
  ·rename_i h31
   subst h31
   rw [if_pos (by rw [fbytes_length]; omega), fbytes_at _ _ (by omega)]
   congr 1
   apply UInt8.toNat_inj.1
   rw [hb, UInt8.toNat_ofNat']
   have e1 : (256 : Nat) ^ 31 = 2 ^ 248 := by decide
   rw [e1]
   omega
  ·rename_i h31
   rw [fbytes_at _ _ hi, fbytes_at _ _ hi]
   congr 2
   have hi2 : i < 31 := by omega
   have e1 : 2 ^ 255 = 256 ^ i * (256 * 2 ^ (247 - 8 * i)) := by
    rw [show (256 : Nat) ^ i = 2 ^ (8 * i) by rw [show 256 = 2 ^ 8 from rfl, ← Nat.pow_mul], show (256 : Nat) = 2 ^ 8 from rfl, ← Nat.pow_add, ← Nat.pow_add]
    congr 1; omega
   rw [e1, Nat.mod_mul_right_div_self, Nat.mod_mul_right_mod]
 ·rw [List.getElem?_eq_none (by rw [List.length_set, fbytes_length]; omega), List.getElem?_eq_none (by rw [fbytes_length]; omega)]
theorem wpList_quietG {P : Program} {ops : Array Oper} {rest : List Oper} {o : Oper} {a : Act} {w : World} {Q : Exit → Act → World → Prop} (hw : Region.wanted o (yielded ops a.tmps) = true) (v : Value)
  (hrun : (execOp a.eval o).run P w = .ok (.value v) w) (h : wpList P ops Q rest (a.put o.dst v) w) : wpList P ops Q (o :: rest) a w := by
 simp only [wpList, hw, if_true]
 refine .inl ?_
 unfold Oper.wp
 simp only [hrun]
 exact h
def PShape (c : Array Value) : Prop := (Tryz.prog.info? 56).map (·.size) = some c.size ∧ c.all (·.oneCell') = true ∧ c.size = 48
theorem built_nilF : Tryz.prog.built 54 [] = some (cF 0) := by
 have : Tryz.prog.built 54 [] = some (u64s (List.replicate 16 0)) := by kernel_rfl
 rw [this, zero16]; rfl
theorem quiet_eql_F {o : Oper} {ev : Operand → Value} (w : World) (x y : Operand) (k : TypeId) (l l' : List Nat) (hl : l.length = 16) (hl' : l'.length = 16) (hx : ev x = .agg (u64s l)) (hy : ev y = .agg (u64s l'))
  (ho : o.op = .binOp .eql 54 x y k) : (execOp ev o).run Tryz.prog w = .ok (.value (.bool (decide (l = l')))) w := by
 have hg : (eqGuard .eql 54 x y (.agg (u64s l)) (.agg (u64s l'))).run Tryz.prog w = .ok () w := run_eqGuard_agg w .eql _ x y _ _ (by kernel_rfl)
 unfold execOp
 simp only [ho, hx, hy, Sem.run_bind, hg, Result.andThen_ok, run_eql_u64s (i := default) Tryz.underlying54 l l' hl hl' w, Sem.run_pure]
theorem cF_inj {a b : Fp} : digs B a.val 16 = digs B b.val 16 ↔ a = b := by
 rw [digs_eq (fp_256 a) (fp_256 b)]
 exact ⟨fp_ext, fun h => by rw [h]⟩
set_option maxHeartbeats 2000000 in
set_option maxRecDepth 100000 in
theorem refGet_any (v : Nat) (hv : v < 2 ^ 256) (ad : Addr) (c Bd : Nat) (w : World) (hr : Reads w Bd 1 (some ad) 32 (Lib.byteCells (fbytes v))) (hBw : Bd ≤ w.heap.size) :
  Calls Tryz.prog 32 #[.slice (some ad) 32 c] w fun e w' => ∃ C, e = .returned (.tuple #[.agg C, .bool (decide (okP v))]) ∧ (∀ h : okP v, PtAt (pget v h) C) ∧ PShape C ∧ Below w.heap.size w w' := by
 obtain ⟨z, hz⟩ : ∃ z, Hid (z = pV 0 0 0) := ⟨_, hid rfl⟩
 have hz0 : ∀ W, (zeroValue 56).run Tryz.prog W = .ok (.agg z) W := by rw [hz.out]; exact zeroP
 obtain ⟨zf, hzf⟩ : ∃ z, Hid (z = cF 0) := ⟨_, hid rfl⟩
 have hzf0 : ∀ W, (zeroValue 54).run Tryz.prog W = .ok (.agg zf) W := by rw [hzf.out]; exact zeroF
 have zs : Hid (z.size = 48) := hid (by rw [hz.out]; exact pV_size _ _ _)
 have of : Hid (∀ a : Fp, zf.size = (cF a).size) := hid (fun a => by rw [hzf.out]; exact cF_sz _ _)
 have HBN : Hid (Tryz.prog.built 56 [] = some z) := by rw [hz.out]; exact hid built_nilP
 have okz : Hid ((Tryz.prog.info? 56).map (·.size) = some z.size ∧ z.all (·.oneCell') = true) := by rw [hz.out]; exact hid ⟨pV_info _ _ _, pV_one _ _ _⟩
 clear hz hzf
 obtain ⟨i0, hi, hi0, hi1, hi2⟩ := info_parts infoByte
 obtain ⟨x, hxx⟩ := named (v / 256 ^ 31 % 256)
 have HV := hid hv
 have hx256 : x < 256 := by rw [hxx.out]; exact Nat.mod_lt _ (by decide)
 obtain ⟨r, hrr⟩ := named (x % 128)
 have e1' : (x : Int) % 128 = (r : Int) := by rw [hrr.out]; omega
 have e2' : (x : Int).tmod 128 = (r : Int) := by rw [Int.tmod_eq_emod_of_nonneg (by omega)]; omega
 have hr128 : r < 128 := by rw [hrr.out]; omega
 have e3' : IntKind.u8.wrap (r : Int) = (r : Int) := by rw [IntKind.wrap_u8']; omega
 obtain ⟨bo, hbo⟩ : ∃ b, Hid (b = decide (2 ^ 255 ≤ v)) := ⟨_, hid rfl⟩
 have hge : decide ((128 : Int) ≤ (x : Int)) = bo := by
  rw [hbo.out]
  have e1 : (256 : Nat) ^ 31 = 2 ^ 248 := by decide
  have hx2 := hxx.out
  rw [e1] at hx2
  exact decide_eq_decide.2 (by omega)
 have hcut : Hid ((fbytes v).set 31 (UInt8.ofNat r) = fbytes (v % 2 ^ 255)) := hid (fbytes_cut hv _ (by rw [UInt8.toNat_ofNat', hrr.out, hxx.out]; omega))
 have hrn : Hid ((UInt8.ofNat r).toNat = r) := hid (by rw [UInt8.toNat_ofNat']; omega)
 have hfx : (Lib.byteCells (fbytes v))[31]? = some (.int .u8 (x : Int)) := by
  have h1 := fbytes_at v 31 (by omega)
  rw [hxx.out]
  simp [Lib.byteCells, h1]
 have HFX := hid hfx
 have hr0 := hr.alloc hBw (.cells z 56)
 have X0 := hid (Blk.new w 56 z)
 have hB0 : Below w.heap.size w (w.alloc (.cells z 56)) := (Below.refl w.heap.size w).alloc (Nat.le_refl _) _
 clear hv hfx hr
 go_enter Tryz.func32, Tryz.ntmps32
 go_upto_region 1 with fail
 generalize w.alloc (.cells z 56) = W at *
 have hwW := X0.out.lt
 have hBW : Bd ≤ W.heap.size := Nat.le_trans hBw hB0.size
 have hoe := owns_empty W
 have hr1 := hr0.alloc hBW (.cells #[] 5)
 have hbe : Below W.heap.size W (W.alloc (.cells #[] 5)) := (Below.refl _ _).alloc (Nat.le_refl _) _
 go_upto_region 2 with (at_builtin; refine wpList_append_any _ rfl (.tmp 10) (.tmp 11) 22 rfl W.heap.size 5 i0 (.int .u8 0) 1 1 Tryz.underlying22 hi hi0 hi1 hi2 rfl (by decide) _ 0 [] rfl hoe Bd (some ad) 32 c (Lib.byteCells (fbytes v)) rfl hr1 (Lib.byteCells_one _) (by unfold maxLen; omega) (by omega) (by simp) ?_)
 intro v1 w1 ho1 hg1 _
 have hb1 : Below W.heap.size W w1 := hbe.grown hg1 (by simp) (fun k hk => (hoe.lt k hk).1)
 obtain ⟨g, cap, hs, hgb, hgl⟩ := ho1.form (by omega)
 subst hs
 have X0 := hid (X0.out.old hb1)
 have hgne : w.heap.size ≠ g := Nat.ne_of_lt (Nat.lt_of_lt_of_le hwW hgb)
 have HB1 := hid (hB0.trans (hb1.mono hB0.size))
 have HO := hid ho1
 have hcell := (ho1.cellAt 31 (by omega)).trans HFX.out
 have hfz := ho1.frozenAt 31
 clear hoe hr0 hr1 hbe hg1 ho1 hb1 hB0
 have hst := (HO.out.stored 31 (.int .u8 (r : Int))).1
 have e31 : (Lib.byteCells (fbytes v)).set 31 (.int .u8 (r : Int)) = Lib.byteCells (fbytes (v % 2 ^ 255)) := by
  rw [← hcut.out, ← byteCells_set, hrn.out]
 rw [e31] at hst
 have HS := hid hst
 have X2 := hid (X0.out.far (p := ⟨g, 31, none⟩) hgne (.int .u8 (r : Int)))
 have HB2 := hid (HB1.out.setCell (p := ⟨g, 31, none⟩) (Nat.le_of_lt (Nat.lt_of_lt_of_le hwW hgb)) (.int .u8 (r : Int)))
 clear hst e31 HO HB1 X0
 go_upto_region 4 with fail
 generalize w1.setCell ⟨g, 31, none⟩ (.int .u8 (r : Int)) = W2 at *
 clear hcell hfz
 obtain ⟨y, hy⟩ : ∃ y, Hid (y = gy v) := ⟨_, hid rfl⟩
 obtain ⟨b1, hb1⟩ : ∃ b, Hid (b = decide (v % 2 ^ 255 < P)) := ⟨_, hid rfl⟩
 have CRaw : Hid (Calls Tryz.prog 68 #[.slice (some ⟨g, 0, none⟩) 32 cap] W2 fun e w' => e = .returned (.tuple #[.agg (cF y), .bool b1]) ∧ Below W2.heap.size W2 w') := hid (by
  rw [hy.out, hb1.out]
  exact raw_any (v % 2 ^ 255) (by omega) ⟨g, 0, none⟩ cap W2 (Reads.of_own HS.out))
 obtain ⟨x0, hx0⟩ : ∃ y, Hid (y = rootF (xsq (gy v))) := ⟨_, hid rfl⟩
 obtain ⟨b2, hb2⟩ : ∃ b, Hid (b = decide (hasRoot (xsq (gy v)).val)) := ⟨_, hid rfl⟩
 have CX : Hid (∀ V, Calls Tryz.prog 55 #[.agg (cF y)] V fun e w' => e = .returned (.tuple #[.agg (cF x0), .bool b2]) ∧ Below V.heap.size V w') := hid fun V => by
  rw [hx0.out, hb2.out, hy.out]; exact refXof_any _ V
 obtain ⟨b0, hb0⟩ : ∃ b, Hid (b = decide (x0 = 0)) := ⟨_, hid rfl⟩
 have hd0 : Hid (decide (digs B x0.val 16 = digs B (0 : Fp).val 16) = b0) := hid (by rw [hb0.out]; exact decide_eq_decide.2 cF_inj)
 have hokv : Hid (decide (okP v) = (b1 && b2 && !(bo && b0))) := hid (by
  rw [hb1.out, hb2.out, hbo.out, hb0.out, hx0.out, Bool.eq_iff_iff]
  simp only [decide_eq_true_iff, Bool.and_eq_true, Bool.not_eq_true', Bool.and_eq_false_iff, decide_eq_false_iff_not]
  unfold okP gr
  constructor
  ·rintro ⟨h1, h2, h3⟩; exact ⟨⟨h1, h2⟩, Decidable.not_and_iff_or_not.1 h3⟩
  ·rintro ⟨⟨h1, h2⟩, h3⟩; exact ⟨h1, h2, Decidable.not_and_iff_or_not.2 h3⟩)
 have hgx : Hid (gx v = if bo = true then 0 - x0 else x0) := hid (by
  rw [hbo.out, hx0.out]
  unfold gx gr
  simp only [decide_eq_true_iff])
 have hgy : Hid (gy v = y) := hid hy.out.symm
 clear hy hb1 hx0 hb2 hb0 hbo
 go_upto_region 5 with fail
 refine (CRaw.out).mono ?_
 rintro e w3 ⟨rfl, hb⟩
 have X2 := hid ((X2.out.old hb).alloc (.cells (cF y) 54))
 have HB2 := hid ((HB2.out.trans (hb.mono HB2.out.size)).alloc (HB2.out.trans (hb.mono HB2.out.size)).size (.cells (cF y) 54))
 have X6 := hid (Blk.new w3 54 (cF y))
 clear hb CRaw HS
 go_upto_region 5 with (first | (refine wpList_store_row rfl 54 (.tmp 6) (.tmp 26) rfl w3.heap.size (cF y) rfl rfl 54 _ (heap_alloc_new w3 _) (cF_ok _).1 (of.out _) (cF_ok _).2 ?_; rw [setRow_alloc1]))
 generalize w3.alloc (.cells (cF y) 54) = W3 at *
 generalize w3.heap.size = g6 at *
 have DEAD : Hid (decide (okP v) = false → ∀ V, Blk V w.heap.size 56 z → Below w.heap.size w V → ∃ C, Value.tuple #[.agg z, .bool false] = Value.tuple #[.agg C, .bool (decide (okP v))] ∧ (∀ h : okP v, PtAt (pget v h) C) ∧ PShape C ∧ Below w.heap.size w V) := hid fun h V _ hV => ⟨z, by rw [h], fun h2 => absurd h2 (by simpa using h), ⟨okz.out.1, okz.out.2, zs.out⟩, hV⟩
 cases hb1v : b1
 ·have ho : decide (okP v) = false := by rw [hokv.out, hb1v]; rfl
  have XF := hid (X2.out.row z)
  have HF := hid (below_row HB2.out (Nat.le_refl _) z)
  clear hb1v
  go_wp2_with (first | (refine wpList_build_to rfl 56 #[] rfl [] (by simp [Act.eval]) z HBN.out ?_) | (refine wpList_store_row rfl 56 (.tmp 2) (.tmp 30) rfl w.heap.size z rfl rfl 56 z X2.out okz.out.1 rfl okz.out.2 ?_))
  obtain ⟨C, hC1, hC2, hC3⟩ := DEAD.out ho _ XF.out HF.out
  refine bodyPost_ret (v := .tuple #[.agg z, .bool false]) ?_ rfl ⟨C, by rw [hC1], hC2, hC3⟩
  exact results_row_tmp1 Tryz.results32 _ _ w.heap.size 56 _ _ _ rfl rfl XF.out Tryz.underlying56 okz.out.1
 have HK : Hid (decide (okP v) = (b2 && !(bo && b0))) := hid (by rw [hokv.out, hb1v, Bool.true_and])
 clear hb1v hokv
 go_upto_region 8 with (first | (refine wpList_load_row rfl 54 (.tmp 6) rfl g6 rfl 54 (cF y) (0, 0) _ X6.out Tryz.underlying54 rfl (cF_ok _).1 ?_))
 refine (CX.out _).mono ?_
 rintro e w4 ⟨rfl, hb⟩
 have N68 := hid (Nat.ne_of_lt (Nat.lt_of_lt_of_le X6.out.lt hb.size))
 have L8 := hid (Nat.le_trans HB2.out.size hb.size)
 have X2 := hid ((X2.out.old hb).alloc (.cells (cF x0) 54))
 have X6 := hid ((X6.out.old hb).alloc (.cells (cF x0) 54))
 have HB2 := hid ((HB2.out.trans (hb.mono HB2.out.size)).alloc (HB2.out.trans (hb.mono HB2.out.size)).size (.cells (cF x0) 54))
 have X8 := hid (Blk.new w4 54 (cF x0))
 clear hb CX
 go_upto_region 8 with (first | (refine wpList_store_row rfl 54 (.tmp 8) (.tmp 34) rfl w4.heap.size (cF x0) rfl rfl 54 _ (heap_alloc_new w4 _) (cF_ok _).1 (of.out _) (cF_ok _).2 ?_; rw [setRow_alloc1]))
 generalize w4.alloc (.cells (cF x0) 54) = W4 at *
 generalize w4.heap.size = g8 at *
 (try simp only [Act.put, zA, zB, zC])
 cases hb2v : b2
 ·have ho : decide (okP v) = false := by rw [HK.out, hb2v]; rfl
  have XF := hid (X2.out.row z)
  have HF := hid (below_row HB2.out (Nat.le_refl _) z)
  clear hb2v
  go_wp2_with (first | (refine wpList_build_to rfl 56 #[] rfl [] (by simp [Act.eval]) z HBN.out ?_) | (refine wpList_store_row rfl 56 (.tmp 2) (.tmp 46) rfl w.heap.size z rfl rfl 56 z X2.out okz.out.1 rfl okz.out.2 ?_))
  obtain ⟨C, hC1, hC2, hC3⟩ := DEAD.out ho _ XF.out HF.out
  refine bodyPost_ret (v := .tuple #[.agg z, .bool false]) ?_ rfl ⟨C, by rw [hC1], hC2, hC3⟩
  exact results_row_tmp1 Tryz.results32 _ _ w.heap.size 56 _ _ _ rfl rfl XF.out Tryz.underlying56 okz.out.1
 have HK2 : Hid (decide (okP v) = !(bo && b0)) := hid (by rw [HK.out, hb2v, Bool.true_and])
 clear hb2v HK
 have N6 : Hid (g6 ≠ w.heap.size) := hid (by rintro rfl; exact absurd (X2.out.ne_ X6.out (by decide)) (by simp))
 have N8 : Hid (g8 ≠ w.heap.size) := hid (by rintro rfl; exact absurd (X2.out.ne_ X8.out (by decide)) (by simp))
 obtain ⟨one, h1⟩ : ∃ a : Fp, Hid (a = 1) := ⟨_, hid rfl⟩
 have C1 : Hid (∀ V, Calls Tryz.prog 52 #[.int .u64 1] V fun e w' => e = .returned (.agg (cF one)) ∧ Below V.heap.size V w') := hid fun V => rOf 1 (by decide) one (by rw [h1.out]; exact fv _ _ (by decide)) _ rfl V
 have hBu := hid (fun xv : Fp => built_P xv y one)
 have okR : Hid (∀ xv : Fp, (Tryz.prog.info? 56).map (·.size) = some (pV xv y one).size ∧ (pV xv y one).all (·.oneCell') = true ∧ z.size = (pV xv y one).size) := hid fun xv => ⟨pV_info _ _ _, pV_one _ _ _, by rw [zs.out, pV_size]⟩
 have PTA : Hid (∀ xv : Fp, gx v = xv → ∀ h : okP v, PtAt (pget v h) (pV xv y one)) := hid fun xv hx h => ⟨gx v, gy v, 1, rep_one (pget v h), by rw [← hx, ← hgy.out, h1.out]⟩
 obtain ⟨pvf, hpv⟩ : ∃ f : Fp → Array Value, Hid (∀ a, pV a y one = f a) := ⟨_, hid fun _ => rfl⟩
 simp only [hpv.out] at hBu okR PTA
 clear h1 hpv
 cases hbov : bo
 ·have ho : decide (okP v) = true := by rw [HK2.out, hbov]; rfl
  have hxv : Hid (gx v = x0) := hid (by rw [hgx.out, hbov]; rfl)
  have HO := hid ho
  clear hbov ho
  go_upto_region 12 with fail
  (try simp only [Act.put, zA, zB, zC])
  have XV := X8
  refine wp_region_held_drew (S := fun V => Far w.heap.size W4 V) (by kernel_rfl) (Far.of (Below.refl _ _).drew) (fun hHeld => ?_)
  have HBW4 := hid ((Below.refl W4.heap.size W4).drew)
  generalize W4.drew = VW4 at *
  refine' wpAnyH_take (i := 0) (oi := _) (v := .agg (cF x0)) ?hit1 ?hst1 ?hft1 ?hrt1 ?hQt1 ?hyt1 ?hSt1 ?_
  case hit1 => (simp only [zD, zE, zF]; rfl)
  case hst1 | hft1 | hrt1 => kernel_rfl
  case hQt1 => exact fun _ _ _ h => h
  case hSt1 => assumption
  case hyt1 =>
   refine Or.inl ⟨by rfl, ?_⟩
   intro W hS
   exact quiet_load_row 54 (.tmp 8) _ rfl 54 (cF x0) _ (hS _ _ _ (by have := N6.out; have := N8.out; omega) XV.out) Tryz.underlying54 rfl (cF_ok _).1 rfl
  (try simp only [Act.put, zA, zB, zC])
  refine' wpAnyH_take (i := 1) (oi := _) (v := .agg (cF y)) ?hit2 ?hst2 ?hft2 ?hrt2 ?hQt2 ?hyt2 ?hSt2 ?_
  case hit2 => (simp only [zD, zE, zF]; rfl)
  case hst2 | hft2 | hrt2 => kernel_rfl
  case hQt2 => exact fun _ _ _ h => h
  case hSt2 => assumption
  case hyt2 =>
   refine Or.inl ⟨by rfl, ?_⟩
   intro W hS
   exact quiet_load_row 54 (.tmp 6) _ rfl 54 (cF y) _ (hS _ _ _ (by have := N6.out; have := N8.out; omega) X6.out) Tryz.underlying54 rfl (cF_ok _).1 rfl
  (try simp only [Act.put, zA, zB, zC])
  refine wpAnyH_ready (rs := [2]) (by kernel_rfl) (by simp) ?_
  refine' (AllReadyH.cons (o := _) ?hir3_2 (fun K hK => ?br3_2) AllReadyH.nil)
  case hir3_2 => (simp only [zD, zE, zF]; rfl)
  case br3_2 =>
   go_simp
   refine (C1.out _).mono ?_
   rintro e w4 ⟨rfl, hb4⟩
   have H4 := hid (HBW4.out.trans (hb4.mono HBW4.out.size))
   clear hb4
   go_wp2_with fail
   refine hK.out _ _ ?_ (fun hHeld => ?_)
   exact Far.of H4.out
   clear hK K
   (try simp only [Act.put, zA, zB, zC])
   refine' wpAnyH_take (i := 3) (oi := _) (v := .agg (pvf x0)) ?hit5 ?hst5 ?hft5 ?hrt5 ?hQt5 ?hyt5 ?hSt5 ?_
   case hit5 => (simp only [zD, zE, zF]; rfl)
   case hst5 | hft5 | hrt5 => kernel_rfl
   case hQt5 => exact fun _ _ _ h => h
   case hSt5 => assumption
   case hyt5 =>
    refine Or.inl ⟨by rfl, ?_⟩
    intro W hS
    exact quiet_build_to 56 #[(0, .tmp 50), (1, .tmp 51), (2, .tmp 52)] rfl [(0, .agg (cF x0)), (1, .agg (cF y)), (2, .agg (cF one))] (by simp [Act.eval]) (pvf x0) (hBu.out _)
   (try simp only [Act.put, zA, zB, zC])
   refine wpAnyH_ready (rs := [4]) (by kernel_rfl) (by simp) ?_
   refine' (AllReadyH.cons (o := _) ?hir6_4 (fun K hK => ?br6_4) AllReadyH.nil)
   case hir6_4 => (simp only [zD, zE, zF]; rfl)
   case br6_4 =>
    refine step_of_wp rfl ?_
    refine wp_store_row 56 (.tmp 2) (.tmp 53) rfl w.heap.size (pvf x0) rfl rfl 56 z (X2.out.old H4.out) (okR.out _).1 (okR.out _).2.2 (okR.out _).2.1 ?_
    refine hK.out _ _ ?_ (fun hHeld => ?_)
    exact (Far.of H4.out).row _
    clear hK K
    (try simp only [Act.put, zA, zB, zC])
    refine' wpAnyH_take (i := 5) (oi := _) (v := _) ?hit8 ?hst8 ?hft8 ?hrt8 ?hQt8 ?hyt8 ?hSt8 ?_
    case hit8 => (simp only [zD, zE, zF]; rfl)
    case hst8 | hft8 | hrt8 => kernel_rfl
    case hQt8 => exact fun _ _ _ h => h
    case hSt8 => assumption
    case hyt8 =>
     refine Or.inl ⟨by rfl, ?_⟩
     intro w hSw
     (try dsimp only at hSw)
     go_simp
     all_goals (with_reducible rfl)
    (try simp only [Act.put, zA, zB, zC])
    refine wpAnyH_done (by kernel_rfl) ?_ _
    have HF := hid (below_row (HB2.out.trans (H4.out.mono HB2.out.size)) (Nat.le_refl _) (pvf x0))
    have F2 := hid ((X2.out.old H4.out).row (pvf x0))
    clear hHeld
    go_wp2_with fail
    refine bodyPost_ret (v := .tuple #[.agg (pvf x0), .bool true]) ?_ rfl ⟨_, by rw [HO.out], PTA.out _ hxv.out, ⟨(okR.out _).1, (okR.out _).2.1, by rw [← (okR.out _).2.2, zs.out]⟩, HF.out⟩
    exact results_row_tmp1 Tryz.results32 _ _ w.heap.size 56 _ _ _ rfl rfl F2.out Tryz.underlying56 (okR.out _).1
 ·have HG0 : Hid (decide (okP v) = !b0) := hid (by rw [HK2.out, hbov]; rfl)
  have hxv : Hid (gx v = 0 - x0) := hid (by rw [hgx.out, hbov]; rfl)
  clear hbov
  have q0 := hid (fun o (ho : o.op = .binOp .eql 54 (.tmp 41) (.tmp 42) 54) (ev : Operand → Value) (h1 : ev (.tmp 41) = .agg (cF x0)) (h2 : ev (.tmp 42) = .agg (cF 0)) (V : World) => show (execOp ev o).run Tryz.prog V = .ok (.value (.bool b0)) V by
   rw [← hd0.out]; exact quiet_eql_F V (.tmp 41) (.tmp 42) 54 _ _ (digs_length _ _ _) (digs_length _ _ _) h1 h2 ho)
  cases hb0v : b0
  ·have HO : Hid (decide (okP v) = true) := hid (by rw [HG0.out, hb0v]; rfl)
   rw [hb0v] at q0
   clear hb0v
   go_upto_region 11 with (first | (refine wpList_quietG rfl (.agg (cF x0)) (quiet_load_row 54 (.tmp 8) g8 rfl 54 (cF x0) _ X8.out Tryz.underlying54 rfl (cF_ok _).1 rfl) ?_) | (refine wpList_quietG rfl (.agg (cF 0)) (quiet_build_to 54 #[] rfl [] (by simp [Act.eval]) (cF 0) built_nilF) ?_) | (refine wpList_quietG rfl (.bool false) (q0.out _ rfl _ rfl rfl _) ?_))
   clear HG0 q0 hd0
   go_upto_region 12 with (first | (refine wpList_load_row rfl 54 (.tmp 8) rfl g8 rfl 54 (cF x0) (0, 0) _ X8.out Tryz.underlying54 rfl (cF_ok _).1 ?_))
   refine (rNeg _ _).mono ?_
   rintro e w5 ⟨rfl, hb⟩
   have X2 := hid ((X2.out.old hb).rowFar (g' := g8) (fun e => N8.out e.symm) (cF (0 - x0)))
   have X6 := hid ((X6.out.old hb).rowFar (g' := g8) N68.out (cF (0 - x0)))
   have X8 := hid (X8.out.old hb)
   have XV := hid (X8.out.row (cF (0 - x0)))
   have HB2 := hid (below_row (g := g8) (HB2.out.trans (hb.mono HB2.out.size)) L8.out (cF (0 - x0)))
   clear hb
   go_upto_region 12 with (first | (refine wpList_store_row rfl 54 (.tmp 8) (.tmp 49) rfl g8 (cF (0 - x0)) rfl rfl 54 (cF x0) X8.out (cF_ok _).1 (cF_sz _ _) (cF_ok _).2 ?_))
   generalize w5.setRow g8 (cF (0 - x0)) = W5 at *
   (try simp only [Act.put, zA, zB, zC])
   refine wp_region_held_drew (S := fun V => Far w.heap.size W5 V) (by kernel_rfl) (Far.of (Below.refl _ _).drew) (fun hHeld => ?_)
   have HBW5 := hid ((Below.refl W5.heap.size W5).drew)
   generalize W5.drew = VW5 at *
   refine' wpAnyH_take (i := 0) (oi := _) (v := .agg (cF (0 - x0))) ?hit9 ?hst9 ?hft9 ?hrt9 ?hQt9 ?hyt9 ?hSt9 ?_
   case hit9 => (simp only [zD, zE, zF]; rfl)
   case hst9 | hft9 | hrt9 => kernel_rfl
   case hQt9 => exact fun _ _ _ h => h
   case hSt9 => assumption
   case hyt9 =>
    refine Or.inl ⟨by rfl, ?_⟩
    intro W hS
    exact quiet_load_row 54 (.tmp 8) _ rfl 54 (cF (0 - x0)) _ (hS _ _ _ (by have := N6.out; have := N8.out; omega) XV.out) Tryz.underlying54 rfl (cF_ok _).1 rfl
   (try simp only [Act.put, zA, zB, zC])
   refine' wpAnyH_take (i := 1) (oi := _) (v := .agg (cF y)) ?hit10 ?hst10 ?hft10 ?hrt10 ?hQt10 ?hyt10 ?hSt10 ?_
   case hit10 => (simp only [zD, zE, zF]; rfl)
   case hst10 | hft10 | hrt10 => kernel_rfl
   case hQt10 => exact fun _ _ _ h => h
   case hSt10 => assumption
   case hyt10 =>
    refine Or.inl ⟨by rfl, ?_⟩
    intro W hS
    exact quiet_load_row 54 (.tmp 6) _ rfl 54 (cF y) _ (hS _ _ _ (by have := N6.out; have := N8.out; omega) X6.out) Tryz.underlying54 rfl (cF_ok _).1 rfl
   (try simp only [Act.put, zA, zB, zC])
   refine wpAnyH_ready (rs := [2]) (by kernel_rfl) (by simp) ?_
   refine' (AllReadyH.cons (o := _) ?hir11_2 (fun K hK => ?br11_2) AllReadyH.nil)
   case hir11_2 => (simp only [zD, zE, zF]; rfl)
   case br11_2 =>
    go_simp
    refine (C1.out _).mono ?_
    rintro e w12 ⟨rfl, hb12⟩
    have H12 := hid (HBW5.out.trans (hb12.mono HBW5.out.size))
    clear hb12
    go_wp2_with fail
    refine hK.out _ _ ?_ (fun hHeld => ?_)
    exact Far.of H12.out
    clear hK K
    (try simp only [Act.put, zA, zB, zC])
    refine' wpAnyH_take (i := 3) (oi := _) (v := .agg (pvf (0 - x0))) ?hit13 ?hst13 ?hft13 ?hrt13 ?hQt13 ?hyt13 ?hSt13 ?_
    case hit13 => (simp only [zD, zE, zF]; rfl)
    case hst13 | hft13 | hrt13 => kernel_rfl
    case hQt13 => exact fun _ _ _ h => h
    case hSt13 => assumption
    case hyt13 =>
     refine Or.inl ⟨by rfl, ?_⟩
     intro W hS
     exact quiet_build_to 56 #[(0, .tmp 50), (1, .tmp 51), (2, .tmp 52)] rfl [(0, .agg (cF (0 - x0))), (1, .agg (cF y)), (2, .agg (cF one))] (by simp [Act.eval]) (pvf (0 - x0)) (hBu.out _)
    (try simp only [Act.put, zA, zB, zC])
    refine wpAnyH_ready (rs := [4]) (by kernel_rfl) (by simp) ?_
    refine' (AllReadyH.cons (o := _) ?hir14_4 (fun K hK => ?br14_4) AllReadyH.nil)
    case hir14_4 => (simp only [zD, zE, zF]; rfl)
    case br14_4 =>
     refine step_of_wp rfl ?_
     refine wp_store_row 56 (.tmp 2) (.tmp 53) rfl w.heap.size (pvf (0 - x0)) rfl rfl 56 z (X2.out.old H12.out) (okR.out _).1 (okR.out _).2.2 (okR.out _).2.1 ?_
     refine hK.out _ _ ?_ (fun hHeld => ?_)
     exact (Far.of H12.out).row _
     clear hK K
     (try simp only [Act.put, zA, zB, zC])
     refine' wpAnyH_take (i := 5) (oi := _) (v := _) ?hit16 ?hst16 ?hft16 ?hrt16 ?hQt16 ?hyt16 ?hSt16 ?_
     case hit16 => (simp only [zD, zE, zF]; rfl)
     case hst16 | hft16 | hrt16 => kernel_rfl
     case hQt16 => exact fun _ _ _ h => h
     case hSt16 => assumption
     case hyt16 =>
      refine Or.inl ⟨by rfl, ?_⟩
      intro w hSw
      (try dsimp only at hSw)
      go_simp
      all_goals (with_reducible rfl)
     (try simp only [Act.put, zA, zB, zC])
     refine wpAnyH_done (by kernel_rfl) ?_ _
     have HF := hid (below_row (HB2.out.trans (H12.out.mono HB2.out.size)) (Nat.le_refl _) (pvf (0 - x0)))
     have F2 := hid ((X2.out.old H12.out).row (pvf (0 - x0)))
     clear hHeld
     go_wp2_with fail
     refine bodyPost_ret (v := .tuple #[.agg (pvf (0 - x0)), .bool true]) ?_ rfl ⟨_, by rw [HO.out], PTA.out _ hxv.out, ⟨(okR.out _).1, (okR.out _).2.1, by rw [← (okR.out _).2.2, zs.out]⟩, HF.out⟩
     exact results_row_tmp1 Tryz.results32 _ _ w.heap.size 56 _ _ _ rfl rfl F2.out Tryz.underlying56 (okR.out _).1
  ·have ho : decide (okP v) = false := by rw [HG0.out, hb0v]; rfl
   rw [hb0v] at q0
   have XF := hid (X2.out.row z)
   have HF := hid (below_row HB2.out (Nat.le_refl _) z)
   clear hb0v
   go_wp2_with (first | (refine wpList_quietG rfl (.agg (cF x0)) (quiet_load_row 54 (.tmp 8) g8 rfl 54 (cF x0) _ X8.out Tryz.underlying54 rfl (cF_ok _).1 rfl) ?_) | (refine wpList_quietG rfl (.agg (cF 0)) (quiet_build_to 54 #[] rfl [] (by simp [Act.eval]) (cF 0) built_nilF) ?_) | (refine wpList_quietG rfl (.bool true) (q0.out _ rfl _ rfl rfl _) ?_) |
    (refine wpList_build_to rfl 56 #[] rfl [] (by simp [Act.eval]) z HBN.out ?_) | (refine wpList_store_row rfl 56 (.tmp 2) (.tmp 46) rfl w.heap.size z rfl rfl 56 z X2.out okz.out.1 rfl okz.out.2 ?_))
   obtain ⟨C, hC1, hC2, hC3⟩ := DEAD.out ho _ XF.out HF.out
   refine bodyPost_ret (v := .tuple #[.agg z, .bool false]) ?_ rfl ⟨C, by rw [hC1], hC2, hC3⟩
   exact results_row_tmp1 Tryz.results32 _ _ w.heap.size 56 _ _ _ rfl rfl XF.out Tryz.underlying56 okz.out.1
end Go.Proofs.YtcfogpeinjehbaaGreatDoor
end

section
set_option maxRecDepth 100000
namespace Go.Proofs.YtcfogpeinjehbaaGreatDoor
open Go Go.Proofs Go.RowKit F5
open Sha (sumOf sumOf_length RowsR)
theorem reads_front {w : World} {B n : Nat} {A : Option Addr} {l : List UInt8} (h : Reads w B 1 A n (Lib.byteCells l)) {k : Nat} (hk : k ≤ n) : Reads w B 1 A k (Lib.byteCells (l.take k)) := by
 have hl : l.length = n := by have := h.1; simpa [Lib.byteCells_length] using this
 refine ⟨by simp [Lib.byteCells_length]; omega, fun hp => ?_⟩
 obtain ⟨ad, e, h1, h2⟩ := h.2 (by omega)
 refine ⟨ad, e, h1, fun j u hj => h2 j u ?_⟩
 simp only [Lib.byteCells, List.map_take, List.getElem?_take] at hj ⊢
 split at hj
 ·exact hj
 ·cases hj
theorem reads_tail {w : World} {B n cap : Nat} {A : Option Addr} {l : List UInt8} (h : Reads w B 1 A n (Lib.byteCells l)) {k : Nat} (hk : k ≤ n) (hc : n ≤ cap) :
  Reads w B 1 (if cap = k then A else A.map (·.add k)) (n - k) (Lib.byteCells (l.drop k)) := by
 have := h.cut hk hc
 rw [Nat.mul_one] at this
 have e : (Lib.byteCells l).drop k = Lib.byteCells (l.drop k) := by simp [Lib.byteCells]
 rwa [e] at this
/-- A byte is put into a slice. -/
theorem reads_put {w : World} {B n : Nat} {ad : Addr} {l : List UInt8} (h : Reads w B 1 (some ad) n (Lib.byteCells l)) (i : Nat) (hi : i < n) (x : UInt8) :
  Reads (w.setCell (ad.add i) (.int .u8 (x.toNat : Int))) B 1 (some ad) n (Lib.byteCells (l.set i x)) := by
 have hl : l.length = n := by have := h.1; simpa [Lib.byteCells_length] using this
 refine ⟨by simp [Lib.byteCells_length, hl], fun hp => ?_⟩
 obtain ⟨ad', e, h1, h2⟩ := h.2 hp
 injection e with e
 subst e
 refine ⟨ad, rfl, h1, fun j u hj => ?_⟩
 by_cases hji : j = i
 ·subst hji
  have hb : (Lib.byteCells (l.set j x))[j]? = some (.int .u8 (x.toNat : Int)) := by
   simp [Lib.byteCells, List.getElem?_set, hl, hi]
  rw [hb] at hj
  injection hj with hj
  rw [← hj]
  have hjl : j < (Lib.byteCells l).length := by rw [Lib.byteCells_length, hl]; exact hi
  exact World.cell?_setCell_same' _ _ _ (by rw [h2 j _ (List.getElem?_eq_getElem hjl)]; rfl)
 ·have hb : (Lib.byteCells (l.set i x))[j]? = (Lib.byteCells l)[j]? := by
   simp [Lib.byteCells, List.getElem?_set, Ne.symm hji]
  rw [hb] at hj
  rw [World.cell?_setCell_other _ _ _ _ (fun e => hji (by
   have h3 : (ad.add j).off = (ad.add i).off := by rw [e]
   unfold Addr.add at h3
   split at h3 <;> split at h3 <;> simp_all))]
  exact h2 j u hj
theorem owns_down {w : World} {B B' e : Nat} {v : Value} {n : Nat} {xs : List Value} (h : w.ownsRow B e 1 v n xs) (hB : B' ≤ B) : w.ownsRow B' e 1 v n xs := by
 rcases h with ⟨h1, h2 | ⟨g, cap, cur, hv, hb, r⟩⟩
 ·exact ⟨h1, .inl h2⟩
 ·exact ⟨h1, .inr ⟨g, cap, cur, hv, Nat.le_trans hB hb, r⟩⟩
/-- A slice of the call's own, of at least a byte: its block can be written. -/
theorem owns_open {w : World} {B e n : Nat} {v : Value} {xs : List Value} (h : w.ownsRow B e 1 v n xs) (hn : 0 < n) : ∃ g cap, v = .slice (some ⟨g, 0, none⟩) n cap ∧ B ≤ g ∧ g < w.heap.size ∧ n ≤ cap ∧ cap ≤ maxLen ∧ ∀ i, w.frozen? ⟨g, i, none⟩ = false := by
 rcases h.2 with ⟨_, h2⟩ | ⟨g, cap, cur, hv, hb, hh, hc, hm, _⟩
 ·omega
 ·refine ⟨g, cap, hv, hb, (Array.getElem?_eq_some_iff.1 hh).1, hc, hm, fun i => ?_⟩
  simp [World.frozen?, hh]
set_option maxHeartbeats 2000000 in
theorem refRest_any (A : Option Addr) (n c B : Nat) (ls : List (List UInt8)) (w : World) (hr : RowsR w B A n ls) (hB : B ≤ w.heap.size) (hN : ls.flatten.length ≤ 1000000) (hn : n ≤ 1000) :
  Calls Tryz.prog 24 #[.slice A n c] w (Byt32 (restN ls.flatten) w) := by
 have HN := hid hN
 obtain ⟨r, hr'⟩ := named (restN ls.flatten)
 have CRd : Hid (∀ A2 c2 V, Reads V V.heap.size 1 A2 64 (Lib.byteCells (sumOf ls.flatten)) → Calls Tryz.prog 60 #[.slice A2 64 c2] V (Byt32 r V)) := hid fun A2 c2 V h => by
  rw [hr'.out]; exact reduce_any A2 64 c2 _ V (by omega) h
 rw [← hr'.out]
 have CJ := hid (Sha.join_any A n c B ls w hr hB (by omega) (by omega))
 clear hr hB hN hr'
 go_enter Tryz.func24, Tryz.ntmps24
 go_wp2_with fail
 refine CJ.out.mono ?_
 rintro e w1 ⟨v1, rfl, ho1, hb1⟩
 obtain ⟨m, hm⟩ := named ls.flatten.length
 rw [← hm.out] at ho1 HN
 obtain ⟨A1, c1, rfl, hc1, _⟩ := own_slice ho1
 have HR1 := hid (Reads.of_own ho1)
 have HB1 := hid hb1
 clear ho1 hb1 hm
 generalize ls.flatten = xs at *
 have CS := hid (Sha.refSum_any A1 m c1 w1.heap.size xs w1 HR1.out (Nat.le_trans HN.out (by decide)) (Nat.le_refl _))
 go_wp2_with fail
 refine CS.out.mono ?_
 rintro e w2 ⟨v2, rfl, ho2, hb2⟩
 rw [sumOf_length] at ho2
 obtain ⟨A2, c2, rfl, hc2, _⟩ := own_slice ho2
 have HR2 := hid (Reads.of_own ho2)
 have HB2 := hid (HB1.out.trans (hb2.mono HB1.out.size))
 clear ho2 hb2
 go_wp2_with fail
 refine (CRd.out A2 c2 w2 HR2.out).mono ?_
 rintro e w3 ⟨v3, rfl, ho3, hb3⟩
 obtain ⟨A3, c3, rfl, hc3, _⟩ := own_slice ho3
 have HO3 := hid ho3
 have HB3 := hid (HB2.out.trans (hb3.mono HB2.out.size))
 clear ho3 hb3
 go_wp2_with fail
 go_ret
 exact ⟨_, rfl, owns_down HO3.out HB2.out.size, HB3.out⟩
theorem secL_eq (seed : List UInt8) {x y : UInt8} (hx : x.toNat = (((sumOf seed).take 32).getD 0 0).toNat) (hy : y.toNat = (((sumOf seed).take 32).getD 31 0).toNat) :
  (((sumOf seed).take 32).set 0 (UInt8.ofNat (x.toNat - x.toNat % 8))).set 31 (UInt8.ofNat (y.toNat % 64 + 64)) = secL seed := by rw [hx, hy]; rfl
def SecEnd (seed : List UInt8) (w : World) (e : Ending) (w' : World) : Prop :=
 ∃ g1 c1 A2 c2, e = .returned (.tuple #[.slice (some ⟨g1, 0, none⟩) 32 c1, .slice A2 32 c2]) ∧ Reads w' w'.heap.size 1 (some ⟨g1, 0, none⟩) 32 (Lib.byteCells (secL seed)) ∧ Reads w' w'.heap.size 1 A2 32 (Lib.byteCells (preL seed)) ∧
  32 ≤ c1 ∧ c1 ≤ maxLen ∧ 32 ≤ c2 ∧ Below w.heap.size w w'
set_option maxHeartbeats 2000000 in
theorem refSecret_any (A : Option Addr) (n c : Nat) (l : List UInt8) (w : World) (hr : Reads w w.heap.size 1 A n (Lib.byteCells l)) (hn : n ≤ 1000) :
  Calls Tryz.prog 20 #[.slice A n c] w (SecEnd l w) := by
 obtain ⟨ib, hib, hzb0, hzb1, hzb2⟩ := info_parts infoByte
 have HIB := hid hib
 have HR := hid hr
 clear hr hib
 go_enter Tryz.func20, Tryz.ntmps20
 go_wp2_with fail
 refine (Sha.refSum_any A n c w.heap.size l w HR.out (by omega) (Nat.le_refl _)).mono ?_
 rintro e w1 ⟨v1, rfl, ho1, hb1⟩
 rw [sumOf_length] at ho1
 obtain ⟨A1, c1, rfl, hc1, hm1⟩ := own_slice ho1
 have HR1 := hid (Reads.of_own ho1)
 have HB1 := hid hb1
 have hne : ¬ (c1 = 32) := by omega
 have hown0 := owns_empty w1
 have hb2 := (Below.refl w1.heap.size w1).alloc (Nat.le_refl _) (.cells #[] 5)
 have hrF := (reads_front (HR1.out.below hb2) (k := 32) (by omega))
 clear ho1 hb1
 go_upto_region 3 with (at_builtin; refine wpList_append_any _ rfl (.tmp 8) (.tmp 10) 22 rfl w1.heap.size 5 ib (.int .u8 0) 1 1 Tryz.underlying22 HIB.out hzb0 hzb1 hzb2 rfl (by omega) _ 0 [] rfl hown0 w1.heap.size A1 32 c1 (Lib.byteCells ((sumOf l).take 32)) rfl hrF (Lib.byteCells_one _) (by unfold maxLen; omega) (by omega) (by simp) ?_; intro v5 w5 hown5 hg5 hv5)
 simp only [Nat.zero_add, List.nil_append] at hown5
 obtain ⟨g, c5, rfl, hg1, hgw, hc5, hm5, hfz⟩ := owns_open hown5 (by omega)
 have HR5 := hid (Reads.of_own hown5)
 have hb5 : Below w1.heap.size w1 w5 := hb2.grown hg5 hb2.size (fun k e => by
  have : k = w1.heap.size := by simpa [Act.eval, Value.ownBlock] using e.symm
  omega)
 obtain ⟨B0, hB0⟩ := named w1.heap.size
 have HB5 := hid (HB1.out.trans (hb5.mono HB1.out.size))
 have HRs := hid (HR1.out.below hb5)
 rw [← hB0.out] at HRs hg1
 have hsz1 : w.heap.size ≤ B0 := by rw [hB0.out]; exact HB1.out.size
 obtain ⟨h, hh⟩ : ∃ h, Hid (h = (sumOf l).take 32) := ⟨_, hid rfl⟩
 rw [← hh.out] at HR5
 have hhl : h.length = 32 := by rw [hh.out]; simp [sumOf_length]
 obtain ⟨x, hx⟩ := named (h.getD 0 0).toNat
 obtain ⟨y, hy⟩ := named (h.getD 31 0).toNat
 have hxl : x < 256 := by rw [hx.out]; exact (h.getD 0 0).toNat_lt
 have hyl : y < 256 := by rw [hy.out]; exact (h.getD 31 0).toNat_lt
 have hcell : ∀ {V : World} {Bd : Nat} {q : List UInt8} (k : Nat), Reads V Bd 1 (some ⟨g, 0, none⟩) 32 (Lib.byteCells q) → k < 32 → V.cell? ⟨g, k, none⟩ = some (.int .u8 ((q.getD k 0).toNat : Int)) := fun {V Bd q} k hr hk => by
  obtain ⟨ad, e, _, hc⟩ := reads_b hr hk
  injection e with e
  subst e
  have e2 : (⟨g, 0, none⟩ : Addr).add k = ⟨g, k, none⟩ := by unfold Addr.add; split <;> simp_all
  rwa [e2] at hc
 have k0 := hcell 0 HR5.out (by omega)
 rw [← hx.out] at k0
 obtain ⟨x', hx'⟩ : ∃ u : UInt8, Hid (u = UInt8.ofNat (x - x % 8)) := ⟨_, hid rfl⟩
 obtain ⟨y', hy'⟩ : ∃ u : UInt8, Hid (u = UInt8.ofNat (y % 64 + 64)) := ⟨_, hid rfl⟩
 have ex : x'.toNat = x - x % 8 := by rw [hx'.out, UInt8.toNat_ofNat']; omega
 have ey : y'.toNat = y % 64 + 64 := by rw [hy'.out, UInt8.toNat_ofNat']; omega
 have wx : IntKind.u8.wrap ((x : Int) - (x : Int) % 8) = (x'.toNat : Int) := by rw [IntKind.wrap_u8', ex]; omega
 have wy : IntKind.u8.wrap ((y : Int) % 64 + 64) = (y'.toNat : Int) := by rw [IntKind.wrap_u8', ey]; omega
 have EX := hid ex
 have EY := hid ey
 clear ex ey
 have HRa := hid (reads_put HR5.out 0 (by omega) x')
 have e0 : (⟨g, 0, none⟩ : Addr).add 0 = ⟨g, 0, none⟩ := rfl
 rw [e0] at HRa
 have k31 := hcell 31 HRa.out (by omega)
 have k31' : (w5.setCell ⟨g, 0, none⟩ (.int .u8 (x'.toNat : Int))).cell? ⟨g, 31, none⟩ = some (.int .u8 (y : Int)) := by
  rw [k31, hy.out]; simp [List.getD]
 clear k31
 have f0 := hfz 0
 have HFZ := hid hfz
 have HRb := hid (reads_put HRa.out 31 (by omega) y')
 have HRs2 := hid ((HRs.out.setCell (p := ⟨g, 0, none⟩) hg1 (.int .u8 (x'.toNat : Int))))
 have HG := hid hg1
 have HS := hid hsz1
 have HGW := hid hgw
 clear hcell hg5 hv5 hb5 hown5 hrF hown0 hb2 hfz hg1 hsz1 hgw
 have k31d : ((w5.setCell ⟨g, 0, none⟩ (.int .u8 (x'.toNat : Int))).drew).cell? ⟨g, 31, none⟩ = some (.int .u8 (y : Int)) := k31'
 have f31d : ((w5.setCell ⟨g, 0, none⟩ (.int .u8 (x'.toNat : Int))).drew).frozen? ⟨g, 31, none⟩ = false := by
  show World.frozen? _ _ = _
  have e : ∀ (V : World) (p : Addr), V.drew.frozen? p = V.frozen? p := fun _ _ => rfl
  rw [e, World.frozen?_setCell]; exact HFZ.out 31
 go_region
 clear k31' f0 k0
 go_wp2
 obtain ⟨W9, hW9⟩ : ∃ V, V = ((w5.setCell ⟨g, 0, none⟩ (.int .u8 (x'.toNat : Int))).setCell ⟨g, 31, none⟩ (.int .u8 (y'.toNat : Int))).drew := ⟨_, rfl⟩
 have e31 : (⟨g, 0, none⟩ : Addr).add 31 = ⟨g, 31, none⟩ := rfl
 have r1 := HRb.out
 rw [e31] at r1
 have r1' : Reads W9 w5.heap.size 1 (some ⟨g, 0, none⟩) 32 (Lib.byteCells ((h.set 0 x').set 31 y')) := by rw [hW9]; exact r1.drew
 have r2' : Reads W9 B0 1 A1 64 (Lib.byteCells (sumOf l)) := by rw [hW9]; exact (HRs2.out.setCell (p := ⟨g, 31, none⟩) HG.out (.int .u8 (y'.toNat : Int))).drew
 have hgw' : w.heap.size ≤ g := Nat.le_trans HS.out HG.out
 have hb9 : Below w.heap.size w W9 := by rw [hW9]; exact ((HB5.out.setCell (p := ⟨g, 0, none⟩) hgw' _).setCell (p := ⟨g, 31, none⟩) hgw' _).drew
 have hz9 : w5.heap.size ≤ W9.heap.size := by rw [hW9]; simp
 have es : (h.set 0 x').set 31 y' = secL l := by
  rw [hx'.out, hy'.out, hx.out, hy.out, hh.out]; rfl
 rw [es] at r1'
 have r3' := reads_tail r2' (k := 32) (cap := c1) (by omega) hc1
 rw [if_neg hne] at r3'
 have hB9 : B0 ≤ W9.heap.size := by have := HG.out; have := HGW.out; omega
 have FIN : Hid (SecEnd l w (.returned (.tuple #[.slice (some ⟨g, 0, none⟩) 32 c5, .slice (A1.map (·.add 32)) 32 (c1 - 32)])) W9.drew) := hid
  ⟨g, c5, _, _, rfl, (r1'.more hz9).drew, (r3'.more hB9).drew, hc5, hm5, by omega, hb9.drew⟩
 rw [← hW9]
 clear r1 r1' r2' r3' hb9 hz9 es hgw' hW9 k31d f31d HRa HRb HRs HRs2 HR5 HFZ wx wy hx' hy' hB9
 go_region
 all_goals (try go_wp2)
 all_goals go_ret2
 all_goals exact FIN.out
end Go.Proofs.YtcfogpeinjehbaaGreatDoor
end

section
set_option maxRecDepth 100000
namespace Go.Proofs.YtcfogpeinjehbaaGreatDoor
open Go Go.Proofs Go.RowKit F5
open Sha (sumOf sumOf_length RowsR)
def BytL (x : List UInt8) (w : World) (e : Ending) (w' : World) : Prop := ∃ r, e = .returned r ∧ w'.ownsRow w.heap.size 5 1 r x.length (Lib.byteCells x) ∧ Below w.heap.size w w'
theorem owns_old {w w' : World} {B e n : Nat} {v : Value} {xs : List Value} (h : w.ownsRow B e 1 v n xs) (hb : Below w.heap.size w w') : w'.ownsRow B e 1 v n xs := by
 refine ⟨h.1, ?_⟩
 rcases h.2 with h2 | ⟨g, cap, cur, hv, hg, hh, r⟩
 ·exact Or.inl h2
 ·exact Or.inr ⟨g, cap, cur, hv, hg, by rw [hb.block g (Array.getElem?_eq_some_iff.1 hh).1]; exact hh, r⟩
set_option maxHeartbeats 2000000 in
theorem refPublic_any (A : Option Addr) (n c : Nat) (l : List UInt8) (w : World) (hr : Reads w w.heap.size 1 A n (Lib.byteCells l)) (hn : n ≤ 1000) :
  Calls Tryz.prog 8 #[.slice A n c] w (BytL (pubL l) w) := by
 obtain ⟨p, hp⟩ : ∃ p, Hid (p = pmul (secN l) pbase) := ⟨_, hid rfl⟩
 obtain ⟨v, hv⟩ := named (secN l)
 have hvl : v < 2 ^ 256 := by rw [hv.out]; exact secN_lt l
 have CT : Hid (∀ g c V, Reads V V.heap.size 1 (some ⟨g, 0, none⟩) 32 (Lib.byteCells (secL l)) → Calls Tryz.prog 22 #[.agg (pV pbase.x pbase.y 1), .slice (some ⟨g, 0, none⟩) 32 c] V fun e w' => ∃ o, e = .returned (.agg o) ∧ PtAt p o ∧ Below V.heap.size V w') := hid fun g c V h => by
  rw [← secN_bytes, ← hv.out] at h
  rw [hp.out, ← hv.out]
  exact refTimes_any PtAt.base v hvl _ c V h
 have CB : Hid (∀ o V, PtAt p o → Calls Tryz.prog 23 #[.agg o] V fun e w' => ∃ s, e = .returned s ∧ w'.ownsRow V.heap.size 5 1 s 32 (Lib.byteCells (pubL l)) ∧ Below V.heap.size V w') := hid fun o V h => by
  have := refPtBytes_any h V
  rw [hp.out] at this
  exact this
 have hlen : (pubL l).length = 32 := ptL_length _
 have HLEN := hid hlen
 have CBa : Hid (∀ V, Calls Tryz.prog 21 #[] V fun e w' => e = .returned (.agg (pV pbase.x pbase.y 1)) ∧ Below V.heap.size V w') := hid fun V => refBase_any V
 have CS := hid (refSecret_any A n c l w hr hn)
 clear hr hp hv hvl hlen
 generalize pubL l = pl at *
 generalize pV pbase.x pbase.y 1 = cb at *
 go_enter Tryz.func8, Tryz.ntmps8
 go_wp2_with fail
 refine CS.out.mono ?_
 rintro e w1 ⟨g1, c1, A2, c2, rfl, hr1, hr2, h1, h1m, h2, hb1⟩
 have HR1 := hid hr1
 have HB1 := hid hb1
 clear hr1 hr2 hb1
 go_wp2_with fail
 refine (CBa.out _).mono ?_
 rintro e w2 ⟨rfl, hb2⟩
 have HR2 := hid ((HR1.out.below hb2).more hb2.size)
 have HB2 := hid (HB1.out.trans (hb2.mono HB1.out.size))
 clear hb2
 go_wp2_with fail
 refine (CT.out _ _ _ HR2.out).mono ?_
 rintro e w3 ⟨o, rfl, ho, hb3⟩
 have HO := hid ho
 have HB3 := hid (HB2.out.trans (hb3.mono HB2.out.size))
 clear hb3 ho
 go_wp2_with fail
 refine (CB.out _ _ HO.out).mono ?_
 rintro e w4 ⟨s, rfl, hs, hb4⟩
 obtain ⟨A4, c4, rfl, _, _⟩ := own_slice hs
 have HS4 := hid hs
 have HB4 := hid (HB3.out.trans (hb4.mono HB3.out.size))
 clear hb4 hs
 go_wp2_with fail
 go_ret
 exact ⟨_, rfl, by rw [HLEN.out]; exact owns_down HS4.out HB3.out.size, HB4.out⟩
theorem rows_lit2 {w : World} {A1 A2 : Option Addr} {n1 c1 n2 c2 : Nat} {l1 l2 : List UInt8} (T : TypeId) (h1 : Reads w w.heap.size 1 A1 n1 (Lib.byteCells l1)) (k1 : n1 ≤ c1) (h2 : Reads w w.heap.size 1 A2 n2 (Lib.byteCells l2)) (k2 : n2 ≤ c2) :
  RowsR (w.alloc (.cells #[.slice A1 n1 c1, .slice A2 n2 c2] T)) (w.heap.size + 1) (some ⟨w.heap.size, 0, none⟩) 2 [l1, l2] := by
 have hb := (Below.refl w.heap.size w).alloc (Nat.le_refl _) (.cells #[.slice A1 n1 c1, .slice A2 n2 c2] T)
 have hc : ∀ i, (w.alloc (.cells #[.slice A1 n1 c1, .slice A2 n2 c2] T)).cell? ⟨w.heap.size, i, none⟩ = #[.slice A1 n1 c1, .slice A2 n2 c2][i]? := fun i => (Blk.new w T _).cell i
 refine ⟨rfl, fun i hi => ?_⟩
 rcases (by omega : i = 0 ∨ i = 1) with rfl | rfl
 ·exact ⟨_, A1, n1, c1, rfl, by simp, hc 0, (h1.below hb).more (by omega), k1⟩
 ·exact ⟨_, A2, n2, c2, rfl, by simp, hc 1, (h2.below hb).more (by omega), k2⟩
theorem rows_lit3 {w : World} {A1 A2 A3 : Option Addr} {n1 c1 n2 c2 n3 c3 : Nat} {l1 l2 l3 : List UInt8} (T : TypeId) (h1 : Reads w w.heap.size 1 A1 n1 (Lib.byteCells l1)) (k1 : n1 ≤ c1) (h2 : Reads w w.heap.size 1 A2 n2 (Lib.byteCells l2)) (k2 : n2 ≤ c2)
  (h3 : Reads w w.heap.size 1 A3 n3 (Lib.byteCells l3)) (k3 : n3 ≤ c3) :
  RowsR (w.alloc (.cells #[.slice A1 n1 c1, .slice A2 n2 c2, .slice A3 n3 c3] T)) (w.heap.size + 1) (some ⟨w.heap.size, 0, none⟩) 3 [l1, l2, l3] := by
 have hb := (Below.refl w.heap.size w).alloc (Nat.le_refl _) (.cells #[.slice A1 n1 c1, .slice A2 n2 c2, .slice A3 n3 c3] T)
 have hc : ∀ i, (w.alloc (.cells #[.slice A1 n1 c1, .slice A2 n2 c2, .slice A3 n3 c3] T)).cell? ⟨w.heap.size, i, none⟩ = #[.slice A1 n1 c1, .slice A2 n2 c2, .slice A3 n3 c3][i]? := fun i => (Blk.new w T _).cell i
 refine ⟨rfl, fun i hi => ?_⟩
 rcases (by omega : i = 0 ∨ i = 1 ∨ i = 2) with rfl | rfl | rfl
 ·exact ⟨_, A1, n1, c1, rfl, by simp, hc 0, (h1.below hb).more (by omega), k1⟩
 ·exact ⟨_, A2, n2, c2, rfl, by simp, hc 1, (h2.below hb).more (by omega), k2⟩
 ·exact ⟨_, A3, n3, c3, rfl, by simp, hc 2, (h3.below hb).more (by omega), k3⟩
theorem size_alloc1 (w : World) (o : Obj) : (w.alloc o).heap.size = w.heap.size + 1 := by simp
set_option maxHeartbeats 8000000 in
theorem refSign_any (A At : Option Addr) (n c nt ct : Nat) (l lt : List UInt8) (w : World) (hr : Reads w w.heap.size 1 A n (Lib.byteCells l)) (hn : n ≤ 1000) (hrt : Reads w w.heap.size 1 At nt (Lib.byteCells lt)) (hnt : nt ≤ 1000) (hct : nt ≤ ct) :
  Calls Tryz.prog 9 #[.slice A n c, .slice At nt ct] w (BytL (signL l lt) w) := by
 obtain ⟨ib, hib, hzb0, hzb1, hzb2⟩ := info_parts infoByte
 have HIB := hid hib
 have hlt : lt.length = nt := by have := hrt.1; rw [Lib.byteCells_length] at this; omega
 obtain ⟨r, hrr⟩ := named (sigR l lt)
 obtain ⟨k, hkk⟩ := named (sigK l lt)
 obtain ⟨s, hss⟩ := named (sigS l lt)
 have hr2 : r < 2 ^ 256 := by rw [hrr.out]; exact restN_256 _
 have hk2 : k < 2 ^ 256 := by rw [hkk.out]; exact restN_256 _
 have hpre := preL_length l
 have CS := hid (refSecret_any A n c l w hr hn)
 have CP : Hid (∀ V, Reads V V.heap.size 1 A n (Lib.byteCells l) → Calls Tryz.prog 8 #[.slice A n c] V (BytL (pubL l) V)) := hid fun V h => refPublic_any A n c l V h hn
 have CR1 : Hid (∀ Ar cr V, RowsR V V.heap.size Ar 2 [preL l, lt] → Calls Tryz.prog 24 #[.slice Ar 2 cr] V (Byt32 r V)) := hid fun Ar cr V h => by
  have := refRest_any Ar 2 cr V.heap.size [preL l, lt] V h (Nat.le_refl _) (by simp [hpre]; omega) (by omega)
  rw [hrr.out]
  have e : [preL l, lt].flatten = preL l ++ lt := by simp
  rw [e] at this
  exact this
 have CT : Hid (∀ g c V, Reads V V.heap.size 1 (some ⟨g, 0, none⟩) 32 (Lib.byteCells (fbytes r)) → Calls Tryz.prog 22 #[.agg (pV pbase.x pbase.y 1), .slice (some ⟨g, 0, none⟩) 32 c] V fun e w' => ∃ o, e = .returned (.agg o) ∧ PtAt (pmul r pbase) o ∧ Below V.heap.size V w') := hid fun g c V h => refTimes_any PtAt.base r hr2 _ c V h
 have CB : Hid (∀ o V, PtAt (pmul r pbase) o → Calls Tryz.prog 23 #[.agg o] V fun e w' => ∃ s, e = .returned s ∧ w'.ownsRow V.heap.size 5 1 s 32 (Lib.byteCells (sigF l lt)) ∧ Below V.heap.size V w') := hid fun o V h => by
  have := refPtBytes_any h V
  rw [hrr.out] at this
  exact this
 have hFl : (sigF l lt).length = 32 := ptL_length _
 have hPl : (pubL l).length = 32 := ptL_length _
 have CR2 : Hid (∀ Ar cr V, RowsR V V.heap.size Ar 3 [sigF l lt, pubL l, lt] → Calls Tryz.prog 24 #[.slice Ar 3 cr] V (Byt32 k V)) := hid fun Ar cr V h => by
  have := refRest_any Ar 3 cr V.heap.size [sigF l lt, pubL l, lt] V h (Nat.le_refl _) (by simp [hFl, hPl]; omega) (by omega)
  rw [hkk.out]
  have e : [sigF l lt, pubL l, lt].flatten = sigF l lt ++ (pubL l ++ lt) := by simp
  rw [e] at this
  exact this
 have CM : Hid (∀ A1 A2 A3 c1 c2 c3 V, Reads V V.heap.size 1 A1 32 (Lib.byteCells (fbytes k)) → Reads V V.heap.size 1 A2 32 (Lib.byteCells (secL l)) → Reads V V.heap.size 1 A3 32 (Lib.byteCells (fbytes r)) →
   Calls Tryz.prog 25 #[.slice A1 32 c1, .slice A2 32 c2, .slice A3 32 c3] V (Byt32 s V)) := hid fun A1 A2 A3 c1 c2 c3 V h1 h2 h3 => by
  have := muladd_any A1 A2 A3 c1 c2 c3 _ _ _ V h1 h2 h3
  rw [bval_fbytes hk2, bval_fbytes hr2] at this
  rw [hss.out, sigS, ← hkk.out, ← hrr.out]
  exact this
 have hfin : Hid (signL l lt = sigF l lt ++ fbytes s) := by rw [hss.out]; exact hid rfl
 have HFL := hid hFl
 have HPL := hid hPl
 have CBa : Hid (∀ V, Calls Tryz.prog 21 #[] V fun e w' => e = .returned (.agg (pV pbase.x pbase.y 1)) ∧ Below V.heap.size V w') := hid fun V => refBase_any V
 have HR := hid hr
 have HT := hid hrt
 clear hr hrt hrr hkk hss hpre hib hFl hPl hlt hr2 hk2
 rw [hfin.out]
 generalize sigF l lt = F at *
 generalize pubL l = pl at *
 generalize pV pbase.x pbase.y 1 = cb at *
 generalize pmul r pbase = pt at *
 go_enter Tryz.func9, Tryz.ntmps9
 go_wp2_with fail
 refine CS.out.mono ?_
 rintro e w1 ⟨g1, c1, A2, c2, rfl, hr1, hr2, h1, h1m, h2, hb1⟩
 have HR := hid (((HR.out.below hb1).more hb1.size))
 have HT := hid (((HT.out.below hb1).more hb1.size))
 have HB := hid hb1
 have HN := hid hr1
 have HP := hid hr2
 clear hr1 hr2 hb1
 go_wp2_with fail
 refine (CP.out _ HR.out).mono ?_
 rintro e w2 ⟨v2, rfl, ho2, hb2⟩
 rw [HPL.out] at ho2
 obtain ⟨Ap, cp, rfl, hcp, _⟩ := own_slice ho2
 have HR := hid (((HR.out.below hb2).more hb2.size))
 have HT := hid (((HT.out.below hb2).more hb2.size))
 have HN := hid (((HN.out.below hb2).more hb2.size))
 have HP := hid (((HP.out.below hb2).more hb2.size))
 have HB := hid (HB.out.trans (hb2.mono HB.out.size))
 have HU := hid (Reads.of_own ho2)
 clear ho2 hb2
 have hrw := hid (rows_lit2 22 HP.out h2 HT.out hct)
 have hba := (Below.refl w2.heap.size w2).alloc (Nat.le_refl _) (.cells #[.slice A2 32 c2, .slice At nt ct] 22)
 have HR := hid (((HR.out.below hba).more hba.size))
 have HT := hid (((HT.out.below hba).more hba.size))
 have HN := hid (((HN.out.below hba).more hba.size))
 have HP := hid (((HP.out.below hba).more hba.size))
 have HU := hid (((HU.out.below hba).more hba.size))
 have HB := hid (HB.out.trans (hba.mono HB.out.size))
 go_wp2_with fail
 have hsz := size_alloc1 w2 (.cells #[.slice A2 32 c2, .slice At nt ct] 22)
 have hrw2 := hrw.out
 rw [← hsz] at hrw2
 clear hsz
 refine (CR1.out _ _ _ hrw2).mono ?_
 rintro e w3 ⟨v3, rfl, ho3, hb3⟩
 obtain ⟨gr, cgr, rfl, _, _, hcgr, _, _⟩ := owns_open ho3 (by omega)
 have HR := hid (((HR.out.below hb3).more hb3.size))
 have HT := hid (((HT.out.below hb3).more hb3.size))
 have HN := hid (((HN.out.below hb3).more hb3.size))
 have HP := hid (((HP.out.below hb3).more hb3.size))
 have HU := hid (((HU.out.below hb3).more hb3.size))
 have HB := hid (HB.out.trans (hb3.mono HB.out.size))
 have Hgr := hid (Reads.of_own ho3)
 clear ho3 hb3 hrw hrw2 hba
 go_wp2_with fail
 refine (CBa.out _).mono ?_
 rintro e w4 ⟨rfl, hb4⟩
 have HR := hid (((HR.out.below hb4).more hb4.size))
 have HT := hid (((HT.out.below hb4).more hb4.size))
 have HN := hid (((HN.out.below hb4).more hb4.size))
 have HP := hid (((HP.out.below hb4).more hb4.size))
 have HU := hid (((HU.out.below hb4).more hb4.size))
 have Hgr := hid (((Hgr.out.below hb4).more hb4.size))
 have HB := hid (HB.out.trans (hb4.mono HB.out.size))
 clear hb4
 go_wp2_with fail
 refine (CT.out _ _ _ Hgr.out).mono ?_
 rintro e w5 ⟨o5, rfl, hpo, hb5⟩
 have HPO := hid hpo
 have HR := hid (((HR.out.below hb5).more hb5.size))
 have HT := hid (((HT.out.below hb5).more hb5.size))
 have HN := hid (((HN.out.below hb5).more hb5.size))
 have HP := hid (((HP.out.below hb5).more hb5.size))
 have HU := hid (((HU.out.below hb5).more hb5.size))
 have Hgr := hid (((Hgr.out.below hb5).more hb5.size))
 have HB := hid (HB.out.trans (hb5.mono HB.out.size))
 clear hb5 hpo
 go_wp2_with fail
 refine (CB.out _ _ HPO.out).mono ?_
 rintro e w6 ⟨v6, rfl, ho6, hb6⟩
 have hw5 := HB.out.size
 obtain ⟨gf, cf, rfl, hgf, _, hcf, hcfm, _⟩ := owns_open ho6 (by omega)
 have HR := hid (((HR.out.below hb6).more hb6.size))
 have HT := hid (((HT.out.below hb6).more hb6.size))
 have HN := hid (((HN.out.below hb6).more hb6.size))
 have HP := hid (((HP.out.below hb6).more hb6.size))
 have HU := hid (((HU.out.below hb6).more hb6.size))
 have Hgr := hid (((Hgr.out.below hb6).more hb6.size))
 have HB := hid (HB.out.trans (hb6.mono HB.out.size))
 have HF := hid (Reads.of_own ho6)
 have OF := hid (owns_down ho6 hw5)
 clear ho6 hb6
 have hrw := hid (rows_lit3 22 HF.out hcf HU.out hcp HT.out hct)
 have hba := (Below.refl w6.heap.size w6).alloc (Nat.le_refl _) (.cells #[.slice (some ⟨gf, 0, none⟩) 32 cf, .slice Ap 32 cp, .slice At nt ct] 22)
 have HR := hid (((HR.out.below hba).more hba.size))
 have HT := hid (((HT.out.below hba).more hba.size))
 have HN := hid (((HN.out.below hba).more hba.size))
 have HP := hid (((HP.out.below hba).more hba.size))
 have HU := hid (((HU.out.below hba).more hba.size))
 have Hgr := hid (((Hgr.out.below hba).more hba.size))
 have HF := hid (((HF.out.below hba).more hba.size))
 have OF := hid (owns_old OF.out hba)
 have HB := hid (HB.out.trans (hba.mono HB.out.size))
 go_wp2_with fail
 have hsz := size_alloc1 w6 (.cells #[.slice (some ⟨gf, 0, none⟩) 32 cf, .slice Ap 32 cp, .slice At nt ct] 22)
 have hrw2 := hrw.out
 rw [← hsz] at hrw2
 clear hsz
 refine (CR2.out _ _ _ hrw2).mono ?_
 rintro e w7 ⟨v3, rfl, ho3, hb3⟩
 obtain ⟨gk, cgk, rfl, _, _, hcgk, _, _⟩ := owns_open ho3 (by omega)
 have HR := hid (((HR.out.below hb3).more hb3.size))
 have HT := hid (((HT.out.below hb3).more hb3.size))
 have HN := hid (((HN.out.below hb3).more hb3.size))
 have HP := hid (((HP.out.below hb3).more hb3.size))
 have HU := hid (((HU.out.below hb3).more hb3.size))
 have Hgr := hid (((Hgr.out.below hb3).more hb3.size))
 have HF := hid (((HF.out.below hb3).more hb3.size))
 have OF := hid (owns_old OF.out hb3)
 have HB := hid (HB.out.trans (hb3.mono HB.out.size))
 have Hgk := hid (Reads.of_own ho3)
 clear ho3 hb3 hrw hrw2 hba
 go_wp2_with fail
 refine (CM.out _ _ _ _ _ _ _ Hgk.out HN.out Hgr.out).mono ?_
 rintro e w8 ⟨v8, rfl, ho8, hb8⟩
 obtain ⟨A8, c8, rfl, hc8, _⟩ := own_slice ho8
 have OF := hid (owns_old OF.out hb8)
 have HB := hid (HB.out.trans (hb8.mono HB.out.size))
 have HS8 := Reads.of_own ho8
 clear hb8 ho8 hw5
 have hof := OF.out
 have hbsz := HB.out.size
 go_wp2_with (at_builtin; refine wpList_append_any _ rfl (.tmp 31) (.tmp 35) 22 rfl w.heap.size 5 ib (.int .u8 0) 1 1 Tryz.underlying22 HIB.out hzb0 hzb1 hzb2 rfl (by omega) _ 32 (Lib.byteCells F) rfl hof w8.heap.size A8 32 c8 (Lib.byteCells (fbytes s)) rfl HS8 (Lib.byteCells_one _) (by unfold maxLen; omega) (by omega) hbsz ?_; intro v9 w9 hown9 hg9 hv9)
 go_ret
 have e9 : Lib.byteCells F ++ Lib.byteCells (fbytes s) = Lib.byteCells (F ++ fbytes s) := by simp [Lib.byteCells]
 rw [e9] at hown9
 refine ⟨_, rfl, by rw [List.length_append, HFL.out, fbytes_length]; exact hown9, HB.out.grown hg9 hbsz (fun j e => ?_)⟩
 have hj : j = gf := by simpa [Act.eval, Value.ownBlock] using e.symm
 rw [hj]
 rcases hof.2 with ⟨h, _⟩ | ⟨g', cap', cur', hv', hb', _⟩
 ·cases h
 ·injection hv' with hv'
  injection hv' with hv'
  injection hv' with hv'
  omega
end Go.Proofs.YtcfogpeinjehbaaGreatDoor
end

section
set_option maxRecDepth 100000
namespace Go.Proofs.YtcfogpeinjehbaaGreatDoor
open Go Go.Proofs Go.RowKit F5
open Sha (sumOf sumOf_length RowsR)
theorem ver_may {pub text sig : List UInt8} (h : mayB (sig.drop 32) = false) : verB pub text sig = false := verB_false.2 fun hv => by
 have h1 : (sig.drop 32).length = 32 := by rw [List.length_drop, hv.2.1]
 have h2 : mayB (sig.drop 32) = true := decide_eq_true ⟨h1, hv.2.2.1⟩
 rw [h] at h2; cases h2
theorem ver_key {pub text sig : List UInt8} (h : ¬ okP (bval pub)) : verB pub text sig = false := verB_false.2 fun hv => by
 obtain ⟨hA, _⟩ := hv.2.2.2
 exact h hA
theorem ver_first {pub text sig : List UInt8} (h : ¬ okP (bval (sig.take 32))) : verB pub text sig = false := verB_false.2 fun hv => by
 obtain ⟨_, hR, _⟩ := hv.2.2.2
 exact h hR
theorem ver_last {pub text sig : List UInt8} (h1 : pub.length = 32) (h2 : sig.length = 64) (h3 : mayB (sig.drop 32) = true) (hA : okP (bval pub)) (hR : okP (bval (sig.take 32))) :
  verB pub text sig = decide (enc (pmul (bval (sig.drop 32)) pbase) = enc (padd (pget _ hR) (pmul (restN (sig.take 32 ++ (pub ++ text))) (pget _ hA)))) := by
 have h4 : bval (sig.drop 32) < LL := (of_decide_eq_true h3).2
 rw [Bool.eq_iff_iff, verB_true, decide_eq_true_eq]
 constructor
 ·rintro ⟨_, _, _, _, _, h⟩; exact h
 ·intro h; exact ⟨h1, h2, h4, hA, hR, h⟩
set_option maxHeartbeats 16000000 in
theorem refVerify_any (A At As : Option Addr) (n c nt ct ns cs : Nat) (l lt ls : List UInt8) (w : World) (hr : Reads w w.heap.size 1 A n (Lib.byteCells l)) (hc : n ≤ c) (hn : n ≤ 1000) (hrt : Reads w w.heap.size 1 At nt (Lib.byteCells lt)) (hct : nt ≤ ct) (hnt : nt ≤ 1000)
  (hrs : Reads w w.heap.size 1 As ns (Lib.byteCells ls)) (hcs : ns ≤ cs) (hns : ns ≤ 1000) :
  Calls Tryz.prog 11 #[.slice A n c, .slice At nt ct, .slice As ns cs] w fun e w' => e = .returned (.bool (verB l lt ls)) ∧ Below w.heap.size w w' := by
 have hl : l.length = n := by have := hr.1; rw [Lib.byteCells_length] at this; omega
 have hlt : lt.length = nt := by have := hrt.1; rw [Lib.byteCells_length] at this; omega
 have hls : ls.length = ns := by have := hrs.1; rw [Lib.byteCells_length] at this; omega
 by_cases h32 : ¬ n = 32
 ·have hv := hid (ver_pub (text := lt) (sig := ls) (show l.length ≠ 32 by omega))
  rw [hv.out]
  have hne : ((n : Int) != 32) = true := by simp; omega
  clear hr hrt hrs
  go_enter Tryz.func11, Tryz.ntmps11
  go_wp2
  go_ret
  exact ⟨rfl, Below.refl _ _⟩
 obtain rfl : n = 32 := by omega
 by_cases h64 : ¬ ns = 64
 ·have hv := hid (ver_len (pub := l) (text := lt) (show ls.length ≠ 64 by omega))
  rw [hv.out]
  have hne : ((ns : Int) != 64) = true := by simp; omega
  clear hr hrt hrs
  go_enter Tryz.func11, Tryz.ntmps11
  go_wp2
  go_ret
  exact ⟨rfl, Below.refl _ _⟩
 obtain rfl : ns = 64 := by omega
 have hcne : ¬ (cs = 32) := by omega
 have hrF := reads_front hrs (k := 32) (by omega)
 have hrD := reads_tail hrs (k := 32) (by omega) hcs
 rw [if_neg hcne] at hrD
 have hlF : (ls.take 32).length = 32 := by rw [List.length_take]; omega
 have hlD : (ls.drop 32).length = 32 := by rw [List.length_drop]; omega
 obtain ⟨a, haa⟩ := named (bval l)
 obtain ⟨rr, hrr⟩ := named (bval (ls.take 32))
 obtain ⟨ss, hss⟩ := named (bval (ls.drop 32))
 have ha2 : a < 2 ^ 256 := by rw [haa.out]; exact bval_256 hl
 have hr2 : rr < 2 ^ 256 := by rw [hrr.out]; exact bval_256 hlF
 have hs2 : ss < 2 ^ 256 := by rw [hss.out]; exact bval_256 hlD
 have eA : Hid (fbytes a = l) := by rw [haa.out]; exact hid (fbytes_bval hl)
 have eR : Hid (fbytes rr = ls.take 32) := by rw [hrr.out]; exact hid (fbytes_bval hlF)
 have eS : Hid (fbytes ss = ls.drop 32) := by rw [hss.out]; exact hid (fbytes_bval hlD)
 have CM := hid (may_any (As.map (·.add 32)) 32 (cs - 32) _ w (by omega) hrD)
 obtain ⟨bm, hbm⟩ : ∃ b, Hid (b = mayB (ls.drop 32)) := ⟨_, hid rfl⟩
 rw [← hbm.out] at CM
 have HL := hid hl
 have HLT := hid hlt
 have HLS := hid hls
 have HLF := hid hlF
 have HR := hid hr
 have HT := hid hrt
 have HF := hid hrF
 have HD := hid hrD
 obtain ⟨ad, hA, _, _⟩ := hr.2 (by omega)
 subst hA
 obtain ⟨as_, hA, _, _⟩ := hrs.2 (by omega)
 subst hA
 clear hr hrt hrs hrF hrD hl hlt hls hlF hlD
 obtain ⟨vb, hvb⟩ : ∃ b, Hid (b = verB l lt ls) := ⟨_, hid rfl⟩
 rw [← hvb.out]
 go_enter Tryz.func11, Tryz.ntmps11
 go_upto_region 2 with fail
 refine CM.out.mono ?_
 rintro e w1 ⟨rfl, hb1⟩
 cases hq : bm
 ·have hv := hid (ver_may (pub := l) (text := lt) (hbm.out.symm.trans hq))
  rw [← hvb.out] at hv
  have HB := hid hb1
  clear hq hb1
  go_wp2_with fail
  go_ret
  exact ⟨by rw [hv.out]; rfl, HB.out⟩
 have HMY := hid (hbm.out.symm.trans hq)
 clear hq
 obtain ⟨z, hz⟩ : ∃ z, Hid (z = pV 0 0 0) := ⟨_, hid rfl⟩
 have hz0 : ∀ W, (zeroValue 56).run Tryz.prog W = .ok (.agg z) W := by rw [hz.out]; exact zeroP
 have zs : Hid (z.size = 48) := hid (by rw [hz.out]; exact pV_size _ _ _)
 have HR := hid ((HR.out.below hb1).more hb1.size)
 have HT := hid ((HT.out.below hb1).more hb1.size)
 have HF := hid ((HF.out.below hb1).more hb1.size)
 have HD := hid ((HD.out.below hb1).more hb1.size)
 have HB := hid hb1
 clear hb1 hz
 obtain ⟨bA, hbA⟩ : ∃ b, Hid (b = decide (okP a)) := ⟨_, hid rfl⟩
 have hxA := HR.out
 rw [← eA.out] at hxA
 have CG := hid (refGet_any a ha2 ad c _ _ hxA (Nat.le_refl _))
 rw [← hbA.out] at CG
 clear hxA
 go_upto_region 4 with fail
 refine CG.out.mono ?_
 rintro e w2 ⟨cfA, rfl, hPtA, hsh, hb1⟩
 have ofA := hid (show _ ∧ _ ∧ z.size = cfA.size from ⟨hsh.1, hsh.2.1, by rw [zs.out, hsh.2.2]⟩)
 have HPTA := hid hPtA
 have hbc := hb1.trans (((Below.refl w2.heap.size w2).alloc (Nat.le_refl _) (.cells cfA 56)).mono hb1.size)
 have HR := hid ((HR.out.below hbc).more hbc.size)
 have HT := hid ((HT.out.below hbc).more hbc.size)
 have HF := hid ((HF.out.below hbc).more hbc.size)
 have HD := hid ((HD.out.below hbc).more hbc.size)
 have HB := hid (HB.out.trans (hbc.mono HB.out.size))
 have FA := hid (Blk.new w2 56 cfA)
 clear hPtA hsh hb1 hbc CG
 go_upto_region 4 with (refine wpList_store_row rfl 56 (.tmp 7) (.tmp 31) rfl w2.heap.size cfA rfl rfl 56 z (heap_alloc_new w2 _) ofA.out.1 ofA.out.2.2 ofA.out.2.1 ?_; rw [setRow_alloc1])
 generalize w2.alloc (.cells cfA 56) = WA at *
 generalize w2.heap.size = gA at *
 obtain ⟨bR, hbR⟩ : ∃ b, Hid (b = decide (okP rr)) := ⟨_, hid rfl⟩
 have hxR := HF.out
 rw [← eR.out] at hxR
 have CG := hid (refGet_any rr hr2 as_ cs _ _ hxR (Nat.le_refl _))
 rw [← hbR.out] at CG
 clear hxR
 go_upto_region 5 with fail
 refine CG.out.mono ?_
 rintro e w3 ⟨cfR, rfl, hPtR, hsh, hb1⟩
 have ofR := hid (show _ ∧ _ ∧ z.size = cfR.size from ⟨hsh.1, hsh.2.1, by rw [zs.out, hsh.2.2]⟩)
 have HPTR := hid hPtR
 have hbc := hb1.trans (((Below.refl w3.heap.size w3).alloc (Nat.le_refl _) (.cells cfR 56)).mono hb1.size)
 have HR := hid ((HR.out.below hbc).more hbc.size)
 have HT := hid ((HT.out.below hbc).more hbc.size)
 have HF := hid ((HF.out.below hbc).more hbc.size)
 have HD := hid ((HD.out.below hbc).more hbc.size)
 have FA := hid (FA.out.old hbc)
 have HB := hid (HB.out.trans (hbc.mono HB.out.size))
 have FR := hid (Blk.new w3 56 cfR)
 clear hPtR hsh hb1 hbc CG
 go_upto_region 5 with (refine wpList_store_row rfl 56 (.tmp 9) (.tmp 37) rfl w3.heap.size cfR rfl rfl 56 z (heap_alloc_new w3 _) ofR.out.1 ofR.out.2.2 ofR.out.2.1 ?_; rw [setRow_alloc1])
 generalize w3.alloc (.cells cfR 56) = WR at *
 generalize w3.heap.size = gR at *
 cases hqA : bA
 ·have hv : Hid (vb = false) := hid (by
   rw [hvb.out]
   refine ver_key ?_
   have := hbA.out
   rw [hqA, haa.out] at this
   simpa using this.symm)
  clear hqA 
  go_wp2_with fail
  go_ret
  exact ⟨by rw [hv.out]; rfl, HB.out⟩
 cases hqR : bR
 ·have hv : Hid (vb = false) := hid (by
   rw [hvb.out]
   refine ver_first ?_
   have := hbR.out
   rw [hqR, hrr.out] at this
   simpa using this.symm)
  clear hqA hqR
  go_wp2_with fail
  go_ret
  exact ⟨by rw [hv.out]; rfl, HB.out⟩
 have okA : okP a := by have := hbA.out; rw [hqA] at this; simpa using this.symm
 have okR : okP rr := by have := hbR.out; rw [hqR] at this; simpa using this.symm
 obtain ⟨pA, hpA⟩ : ∃ p, Hid (p = pget a okA) := ⟨_, hid rfl⟩
 obtain ⟨pR, hpR⟩ : ∃ p, Hid (p = pget rr okR) := ⟨_, hid rfl⟩
 have PA : Hid (PtAt pA cfA) := by rw [hpA.out]; exact hid (HPTA.out okA)
 have PR : Hid (PtAt pR cfR) := by rw [hpR.out]; exact hid (HPTR.out okR)
 obtain ⟨k, hkk⟩ := named (restN (ls.take 32 ++ (l ++ lt)))
 have hk2 : k < 2 ^ 256 := by rw [hkk.out]; exact restN_256 _
 have hvl : Hid (vb = decide (enc (pmul ss pbase) = enc (padd pR (pmul k pA)))) := hid (by
  have h1 : okP (bval l) := by rw [← haa.out]; exact okA
  have h2 : okP (bval (ls.take 32)) := by rw [← hrr.out]; exact okR
  rw [hvb.out, ver_last HL.out HLS.out HMY.out h1 h2, ← hss.out, ← hkk.out]
  have e1 : pget (bval l) h1 = pA := by rw [hpA.out]; congr 1; exact haa.out.symm
  have e2 : pget (bval (ls.take 32)) h2 = pR := by rw [hpR.out]; congr 1; exact hrr.out.symm
  rw [e1, e2])
 have CRd : Hid (∀ Ar cr V, RowsR V V.heap.size Ar 3 [ls.take 32, l, lt] → Calls Tryz.prog 24 #[.slice Ar 3 cr] V (Byt32 k V)) := hid fun Ar cr V h => by
  have := refRest_any Ar 3 cr V.heap.size [ls.take 32, l, lt] V h (Nat.le_refl _) (by have := HL.out; have := HLF.out; have := HLT.out; simp at *; omega) (by omega)
  rw [hkk.out]
  have e : [ls.take 32, l, lt].flatten = ls.take 32 ++ (l ++ lt) := by simp
  rw [e] at this
  exact this
 have CT : Hid (∀ {p : Pt} {q : Array Value} (v : Nat), v < 2 ^ 256 → ∀ (ad : Addr) (c : Nat) V, PtAt p q → Reads V V.heap.size 1 (some ad) 32 (Lib.byteCells (fbytes v)) → Calls Tryz.prog 22 #[.agg q, .slice (some ad) 32 c] V fun e w' => ∃ o, e = .returned (.agg o) ∧ PtAt (pmul v p) o ∧ Below V.heap.size V w') := hid fun v hv ad c V hp h => refTimes_any hp v hv ad c V h
 clear hqA hqR okA okR hpA hpR HPTA HPTR hbA hbR haa hrr hss hkk hvb HMY
 have hrw := hid (rows_lit3 22 HF.out (show 32 ≤ cs by omega) HR.out hc HT.out hct)
 have hba := (Below.refl WR.heap.size WR).alloc (Nat.le_refl _) (.cells #[.slice (some as_) 32 cs, .slice (some ad) 32 c, .slice At nt ct] 22)
 have HR := hid ((HR.out.below hba).more hba.size)
 have HT := hid ((HT.out.below hba).more hba.size)
 have HF := hid ((HF.out.below hba).more hba.size)
 have HD := hid ((HD.out.below hba).more hba.size)
 have FA := hid (FA.out.old hba)
 have FR := hid (FR.out.old hba)
 have HB := hid (HB.out.trans (hba.mono HB.out.size))
 go_upto_region 8 with fail
 have hsz := size_alloc1 WR (.cells #[.slice (some as_) 32 cs, .slice (some ad) 32 c, .slice At nt ct] 22)
 have hrw2 := hrw.out
 rw [← hsz] at hrw2
 clear hsz
 refine (CRd.out _ _ _ hrw2).mono ?_
 rintro e w5 ⟨v3, rfl, ho3, hb3⟩
 obtain ⟨gk, ck, rfl, _, _, hck, _, _⟩ := owns_open ho3 (by omega)
 have HR := hid ((HR.out.below hb3).more hb3.size)
 have HT := hid ((HT.out.below hb3).more hb3.size)
 have HF := hid ((HF.out.below hb3).more hb3.size)
 have HD := hid ((HD.out.below hb3).more hb3.size)
 have FA := hid (FA.out.old hb3)
 have FR := hid (FR.out.old hb3)
 have HB := hid (HB.out.trans (hb3.mono HB.out.size))
 have HK := hid (Reads.of_own ho3)
 clear ho3 hb3 hrw hrw2 hba
 go_upto_region 8 with fail
 (try simp only [Act.put, zA, zB, zC])
 go_cut [12] (fun pp wx => ∃ gg cc V, V = wx ∧ pp = .pointer (some ⟨gg, 0, none⟩) ∧ PtAt (pmul ss pbase) cc ∧ Blk wx gg 56 cc ∧ Below w5.heap.size w5 wx)
 case first =>
  (try simp only [Act.put, zA, zB, zC])
  refine wp_region_held_drew (S := fun V => Below w5.heap.size w5 V) (by kernel_rfl) (Below.refl _ _).drew (fun hHeld => ?_)
  have HB0 := hid ((Below.refl w5.heap.size w5).drew)
  generalize w5.drew = V0 at *
  refine' wpAnyH_take (i := 1) (oi := _) (v := _) ?hit1 ?hst1 ?hft1 ?hrt1 ?hQt1 ?hyt1 ?hSt1 ?_
  case hit1 => (simp only [zD, zE, zF]; rfl)
  case hst1 | hft1 | hrt1 => kernel_rfl
  case hQt1 => exact fun _ _ _ h => h
  case hSt1 => assumption
  case hyt1 =>
   refine Or.inl ⟨by rfl, ?_⟩
   intro w hSw
   (try dsimp only at hSw)
   go_simp
   all_goals (with_reducible rfl)
  (try simp only [Act.put, zA, zB, zC])
  refine' wpAnyH_take (i := 2) (oi := _) (v := _) ?hit2 ?hst2 ?hft2 ?hrt2 ?hQt2 ?hyt2 ?hSt2 ?_
  case hit2 => (simp only [zD, zE, zF]; rfl)
  case hst2 | hft2 | hrt2 => kernel_rfl
  case hQt2 => exact fun _ _ _ h => h
  case hSt2 => assumption
  case hyt2 =>
   refine Or.inl ⟨by rfl, ?_⟩
   intro w hSw
   (try dsimp only at hSw)
   go_simp
   all_goals (with_reducible rfl)
  (try simp only [Act.put, zA, zB, zC])
  refine wpAnyH_ready (rs := [0, 4]) (by kernel_rfl) (by simp) ?_
  refine' (AllReadyH.cons (o := _) ?hir3_0 (fun K hK => ?br3_0) (AllReadyH.cons (o := _) ?hir3_4 (fun K hK => ?br3_4) AllReadyH.nil))
  case hir3_0 => (simp only [zD, zE, zF]; rfl)
  case hir3_4 => (simp only [zD, zE, zF]; rfl)
  case br3_0 =>
   go_simp
   refine (refBase_any _).mono ?_
   rintro e w4 ⟨rfl, hb4⟩
   have P51 := hid PtAt.base
   have H4 := hid (HB0.out.trans (hb4.mono HB0.out.size))
   clear hb4
   generalize pV pbase.x pbase.y 1 = c51 at *
   go_wp2_with fail
   refine hK.out _ _ ?_ (fun hHeld => ?_)
   exact H4.out
   clear hK K
   (try simp only [Act.put, zA, zB, zC])
   refine wpAnyH_ready (rs := [3, 4]) (by kernel_rfl) (by simp) ?_
   refine' (AllReadyH.cons (o := _) ?hir5_3 (fun K hK => ?br5_3) (AllReadyH.cons (o := _) ?hir5_4 (fun K hK => ?br5_4) AllReadyH.nil))
   case hir5_3 => (simp only [zD, zE, zF]; rfl)
   case hir5_4 => (simp only [zD, zE, zF]; rfl)
   case br5_3 =>
    go_simp
    refine (CT.out ss hs2 _ _ _ P51.out (by rw [eS.out]; exact (HD.out.below H4.out).more H4.out.size)).mono ?_
    rintro e w6 ⟨c54, rfl, hp6, hb6⟩
    have P54 := hid hp6
    have H6 := hid (H4.out.trans (hb6.mono H4.out.size))
    clear hp6 hb6
    go_wp2_with fail
    refine hK.out _ _ ?_ (fun hHeld => ?_)
    exact H6.out
    clear hK K
    (try simp only [Act.put, zA, zB, zC])
    refine wpAnyH_ready (rs := [4]) (by kernel_rfl) (by simp) ?_
    refine' (AllReadyH.cons (o := _) ?hir7_4 (fun K hK => ?br7_4) AllReadyH.nil)
    case hir7_4 => (simp only [zD, zE, zF]; rfl)
    case br7_4 =>
     go_simp
     refine hK.out _ _ ?_ (fun hHeld => ?_)
     ·exact (H6.out.alloc H6.out.size _)
     have H8 := hid (H6.out.alloc H6.out.size (.cells z 56))
     have N12_8 := hid (alloc_new H6.out 56 z)
     have G12_8 := hid H6.out.size
     clear hK K
     (try simp only [Act.put, zA, zB, zC])
     refine wpAnyH_ready (rs := [5]) (by kernel_rfl) (by simp) ?_
     refine' (AllReadyH.cons (o := _) ?hir9_5 (fun K hK => ?br9_5) AllReadyH.nil)
     case hir9_5 => (simp only [zD, zE, zF]; rfl)
     case br9_5 =>
      refine step_of_wp rfl ?_
      refine wp_store_row 56 (.tmp 12) (.tmp 54) rfl _ c54 rfl rfl 56 z N12_8.out P54.out.ok.1 (by rw [zs.out, P54.out.ok.2.2]) P54.out.ok.2.1 ?_
      refine hK.out _ _ ?_ (fun hHeld => ?_)
      exact below_row H8.out G12_8.out _
      have H10 := hid (below_row H8.out G12_8.out c54)
      have N12_10 := hid (N12_8.out.row c54)
      clear hK K
      (try simp only [Act.put, zA, zB, zC])
      refine wpAnyH_done (by kernel_rfl) ?_ _
      go_wp2_with fail
      go_meet
      exact ⟨_, _, _, rfl, rfl, P54.out, N12_10.out, H10.out⟩
   case br5_4 =>
    go_simp
    refine hK.out _ _ ?_ (fun hHeld => ?_)
    ·exact (H4.out.alloc H4.out.size _)
    have H11 := hid (H4.out.alloc H4.out.size (.cells z 56))
    have N12_11 := hid (alloc_new H4.out 56 z)
    have G12_11 := hid H4.out.size
    clear hK K
    (try simp only [Act.put, zA, zB, zC])
    refine wpAnyH_ready (rs := [3]) (by kernel_rfl) (by simp) ?_
    refine' (AllReadyH.cons (o := _) ?hir12_3 (fun K hK => ?br12_3) AllReadyH.nil)
    case hir12_3 => (simp only [zD, zE, zF]; rfl)
    case br12_3 =>
     go_simp
     refine (CT.out ss hs2 _ _ _ P51.out (by rw [eS.out]; exact (HD.out.below H11.out).more H11.out.size)).mono ?_
     rintro e w13 ⟨c54, rfl, hp13, hb13⟩
     have P54 := hid hp13
     have H13 := hid (H11.out.trans (hb13.mono H11.out.size))
     have N12_13 := hid (N12_11.out.old hb13)
     clear hp13 hb13
     go_wp2_with fail
     refine hK.out _ _ ?_ (fun hHeld => ?_)
     exact H13.out
     clear hK K
     (try simp only [Act.put, zA, zB, zC])
     refine wpAnyH_ready (rs := [5]) (by kernel_rfl) (by simp) ?_
     refine' (AllReadyH.cons (o := _) ?hir14_5 (fun K hK => ?br14_5) AllReadyH.nil)
     case hir14_5 => (simp only [zD, zE, zF]; rfl)
     case br14_5 =>
      refine step_of_wp rfl ?_
      refine wp_store_row 56 (.tmp 12) (.tmp 54) rfl _ c54 rfl rfl 56 z N12_13.out P54.out.ok.1 (by rw [zs.out, P54.out.ok.2.2]) P54.out.ok.2.1 ?_
      refine hK.out _ _ ?_ (fun hHeld => ?_)
      exact below_row H13.out G12_11.out _
      have H15 := hid (below_row H13.out G12_11.out c54)
      have N12_15 := hid (N12_13.out.row c54)
      clear hK K
      (try simp only [Act.put, zA, zB, zC])
      refine wpAnyH_done (by kernel_rfl) ?_ _
      go_wp2_with fail
      go_meet
      exact ⟨_, _, _, rfl, rfl, P54.out, N12_15.out, H15.out⟩
  case br3_4 =>
   go_simp
   refine hK.out _ _ ?_ (fun hHeld => ?_)
   ·exact (HB0.out.alloc HB0.out.size _)
   have H16 := hid (HB0.out.alloc HB0.out.size (.cells z 56))
   have N12_16 := hid (alloc_new HB0.out 56 z)
   have G12_16 := hid HB0.out.size
   clear hK K
   (try simp only [Act.put, zA, zB, zC])
   refine wpAnyH_ready (rs := [0]) (by kernel_rfl) (by simp) ?_
   refine' (AllReadyH.cons (o := _) ?hir17_0 (fun K hK => ?br17_0) AllReadyH.nil)
   case hir17_0 => (simp only [zD, zE, zF]; rfl)
   case br17_0 =>
    go_simp
    refine (refBase_any _).mono ?_
    rintro e w18 ⟨rfl, hb18⟩
    have P51 := hid PtAt.base
    have H18 := hid (H16.out.trans (hb18.mono H16.out.size))
    have N12_18 := hid (N12_16.out.old hb18)
    clear hb18
    generalize pV pbase.x pbase.y 1 = c51 at *
    go_wp2_with fail
    refine hK.out _ _ ?_ (fun hHeld => ?_)
    exact H18.out
    clear hK K
    (try simp only [Act.put, zA, zB, zC])
    refine wpAnyH_ready (rs := [3]) (by kernel_rfl) (by simp) ?_
    refine' (AllReadyH.cons (o := _) ?hir19_3 (fun K hK => ?br19_3) AllReadyH.nil)
    case hir19_3 => (simp only [zD, zE, zF]; rfl)
    case br19_3 =>
     go_simp
     refine (CT.out ss hs2 _ _ _ P51.out (by rw [eS.out]; exact (HD.out.below H18.out).more H18.out.size)).mono ?_
     rintro e w20 ⟨c54, rfl, hp20, hb20⟩
     have P54 := hid hp20
     have H20 := hid (H18.out.trans (hb20.mono H18.out.size))
     have N12_20 := hid (N12_18.out.old hb20)
     clear hp20 hb20
     go_wp2_with fail
     refine hK.out _ _ ?_ (fun hHeld => ?_)
     exact H20.out
     clear hK K
     (try simp only [Act.put, zA, zB, zC])
     refine wpAnyH_ready (rs := [5]) (by kernel_rfl) (by simp) ?_
     refine' (AllReadyH.cons (o := _) ?hir21_5 (fun K hK => ?br21_5) AllReadyH.nil)
     case hir21_5 => (simp only [zD, zE, zF]; rfl)
     case br21_5 =>
      refine step_of_wp rfl ?_
      refine wp_store_row 56 (.tmp 12) (.tmp 54) rfl _ c54 rfl rfl 56 z N12_20.out P54.out.ok.1 (by rw [zs.out, P54.out.ok.2.2]) P54.out.ok.2.1 ?_
      refine hK.out _ _ ?_ (fun hHeld => ?_)
      exact below_row H20.out G12_16.out _
      have H22 := hid (below_row H20.out G12_16.out c54)
      have N12_22 := hid (N12_20.out.row c54)
      clear hK K
      (try simp only [Act.put, zA, zB, zC])
      refine wpAnyH_done (by kernel_rfl) ?_ _
      go_wp2_with fail
      go_meet
      exact ⟨_, _, _, rfl, rfl, P54.out, N12_22.out, H22.out⟩
 case rest =>
 obtain ⟨g8, c8, w6, hw6, rfl, hp8, hb8, hbb⟩ := hcut
 subst hw6
 have P8 := hid hp8
 have F8 := hid hb8
 have HR := hid ((HR.out.below hbb).more hbb.size)
 have HT := hid ((HT.out.below hbb).more hbb.size)
 have HF := hid ((HF.out.below hbb).more hbb.size)
 have HD := hid ((HD.out.below hbb).more hbb.size)
 have HK := hid ((HK.out.below hbb).more hbb.size)
 have FA := hid (FA.out.old hbb)
 have FR := hid (FR.out.old hbb)
 have HB := hid (HB.out.trans (hbb.mono HB.out.size))
 clear hp8 hb8 hbb
 go_upto_region 9 with fail
 (try simp only [Act.put, zA, zB, zC])
 go_cut [13] (fun pp wx => ∃ gg cc V, V = wx ∧ pp = .pointer (some ⟨gg, 0, none⟩) ∧ PtAt (padd pR (pmul k pA)) cc ∧ Blk wx gg 56 cc ∧ Below w6.heap.size w6 wx)
 case first =>
  (try simp only [Act.put, zA, zB, zC])
  refine wp_region_held_drew (S := fun V => Below w6.heap.size w6 V) (by kernel_rfl) (Below.refl _ _).drew (fun hHeld => ?_)
  have HB0 := hid ((Below.refl w6.heap.size w6).drew)
  generalize w6.drew = V0 at *
  refine' wpAnyH_take (i := 0) (oi := _) (v := .agg cfR) ?hit23 ?hst23 ?hft23 ?hrt23 ?hQt23 ?hyt23 ?hSt23 ?_
  case hit23 => (simp only [zD, zE, zF]; rfl)
  case hst23 | hft23 | hrt23 => kernel_rfl
  case hQt23 => exact fun _ _ _ h => h
  case hSt23 => assumption
  case hyt23 =>
   refine Or.inl ⟨by rfl, ?_⟩
   intro W hS
   exact quiet_load_row 56 (.tmp 9) _ rfl 56 cfR _ (FR.out.old hS) Tryz.underlying56 rfl ofR.out.1 rfl
  (try simp only [Act.put, zA, zB, zC])
  refine' wpAnyH_take (i := 1) (oi := _) (v := .agg cfA) ?hit24 ?hst24 ?hft24 ?hrt24 ?hQt24 ?hyt24 ?hSt24 ?_
  case hit24 => (simp only [zD, zE, zF]; rfl)
  case hst24 | hft24 | hrt24 => kernel_rfl
  case hQt24 => exact fun _ _ _ h => h
  case hSt24 => assumption
  case hyt24 =>
   refine Or.inl ⟨by rfl, ?_⟩
   intro W hS
   exact quiet_load_row 56 (.tmp 7) _ rfl 56 cfA _ (FA.out.old hS) Tryz.underlying56 rfl ofA.out.1 rfl
  (try simp only [Act.put, zA, zB, zC])
  refine' wpAnyH_take (i := 2) (oi := _) (v := _) ?hit25 ?hst25 ?hft25 ?hrt25 ?hQt25 ?hyt25 ?hSt25 ?_
  case hit25 => (simp only [zD, zE, zF]; rfl)
  case hst25 | hft25 | hrt25 => kernel_rfl
  case hQt25 => exact fun _ _ _ h => h
  case hSt25 => assumption
  case hyt25 =>
   refine Or.inl ⟨by rfl, ?_⟩
   intro w hSw
   (try dsimp only at hSw)
   go_simp
   all_goals (with_reducible rfl)
  (try simp only [Act.put, zA, zB, zC])
  refine wpAnyH_ready (rs := [3, 5]) (by kernel_rfl) (by simp) ?_
  refine' (AllReadyH.cons (o := _) ?hir26_3 (fun K hK => ?br26_3) (AllReadyH.cons (o := _) ?hir26_5 (fun K hK => ?br26_5) AllReadyH.nil))
  case hir26_3 => (simp only [zD, zE, zF]; rfl)
  case hir26_5 => (simp only [zD, zE, zF]; rfl)
  case br26_3 =>
   go_simp
   refine (CT.out k hk2 _ _ _ PA.out ((HK.out.below HB0.out).more HB0.out.size)).mono ?_
   rintro e w27 ⟨c58, rfl, hp27, hb27⟩
   have P58 := hid hp27
   have H27 := hid (HB0.out.trans (hb27.mono HB0.out.size))
   clear hp27 hb27
   go_wp2_with fail
   refine hK.out _ _ ?_ (fun hHeld => ?_)
   exact H27.out
   clear hK K
   (try simp only [Act.put, zA, zB, zC])
   refine wpAnyH_ready (rs := [4, 5]) (by kernel_rfl) (by simp) ?_
   refine' (AllReadyH.cons (o := _) ?hir28_4 (fun K hK => ?br28_4) (AllReadyH.cons (o := _) ?hir28_5 (fun K hK => ?br28_5) AllReadyH.nil))
   case hir28_4 => (simp only [zD, zE, zF]; rfl)
   case hir28_5 => (simp only [zD, zE, zF]; rfl)
   case br28_4 =>
    go_simp
    refine (refAddPt_any PR.out P58.out _).mono ?_
    rintro e w29 ⟨c59, rfl, hp29, hb29⟩
    have P59 := hid hp29
    have H29 := hid (H27.out.trans (hb29.mono H27.out.size))
    clear hp29 hb29
    go_wp2_with fail
    refine hK.out _ _ ?_ (fun hHeld => ?_)
    exact H29.out
    clear hK K
    (try simp only [Act.put, zA, zB, zC])
    refine wpAnyH_ready (rs := [5]) (by kernel_rfl) (by simp) ?_
    refine' (AllReadyH.cons (o := _) ?hir30_5 (fun K hK => ?br30_5) AllReadyH.nil)
    case hir30_5 => (simp only [zD, zE, zF]; rfl)
    case br30_5 =>
     go_simp
     refine hK.out _ _ ?_ (fun hHeld => ?_)
     ·exact (H29.out.alloc H29.out.size _)
     have H31 := hid (H29.out.alloc H29.out.size (.cells z 56))
     have N13_31 := hid (alloc_new H29.out 56 z)
     have G13_31 := hid H29.out.size
     clear hK K
     (try simp only [Act.put, zA, zB, zC])
     refine wpAnyH_ready (rs := [6]) (by kernel_rfl) (by simp) ?_
     refine' (AllReadyH.cons (o := _) ?hir32_6 (fun K hK => ?br32_6) AllReadyH.nil)
     case hir32_6 => (simp only [zD, zE, zF]; rfl)
     case br32_6 =>
      refine step_of_wp rfl ?_
      refine wp_store_row 56 (.tmp 13) (.tmp 59) rfl _ c59 rfl rfl 56 z N13_31.out P59.out.ok.1 (by rw [zs.out, P59.out.ok.2.2]) P59.out.ok.2.1 ?_
      refine hK.out _ _ ?_ (fun hHeld => ?_)
      exact below_row H31.out G13_31.out _
      have H33 := hid (below_row H31.out G13_31.out c59)
      have N13_33 := hid (N13_31.out.row c59)
      clear hK K
      (try simp only [Act.put, zA, zB, zC])
      refine wpAnyH_done (by kernel_rfl) ?_ _
      go_wp2_with fail
      go_meet
      exact ⟨_, _, _, rfl, rfl, P59.out, N13_33.out, H33.out⟩
   case br28_5 =>
    go_simp
    refine hK.out _ _ ?_ (fun hHeld => ?_)
    ·exact (H27.out.alloc H27.out.size _)
    have H34 := hid (H27.out.alloc H27.out.size (.cells z 56))
    have N13_34 := hid (alloc_new H27.out 56 z)
    have G13_34 := hid H27.out.size
    clear hK K
    (try simp only [Act.put, zA, zB, zC])
    refine wpAnyH_ready (rs := [4]) (by kernel_rfl) (by simp) ?_
    refine' (AllReadyH.cons (o := _) ?hir35_4 (fun K hK => ?br35_4) AllReadyH.nil)
    case hir35_4 => (simp only [zD, zE, zF]; rfl)
    case br35_4 =>
     go_simp
     refine (refAddPt_any PR.out P58.out _).mono ?_
     rintro e w36 ⟨c59, rfl, hp36, hb36⟩
     have P59 := hid hp36
     have H36 := hid (H34.out.trans (hb36.mono H34.out.size))
     have N13_36 := hid (N13_34.out.old hb36)
     clear hp36 hb36
     go_wp2_with fail
     refine hK.out _ _ ?_ (fun hHeld => ?_)
     exact H36.out
     clear hK K
     (try simp only [Act.put, zA, zB, zC])
     refine wpAnyH_ready (rs := [6]) (by kernel_rfl) (by simp) ?_
     refine' (AllReadyH.cons (o := _) ?hir37_6 (fun K hK => ?br37_6) AllReadyH.nil)
     case hir37_6 => (simp only [zD, zE, zF]; rfl)
     case br37_6 =>
      refine step_of_wp rfl ?_
      refine wp_store_row 56 (.tmp 13) (.tmp 59) rfl _ c59 rfl rfl 56 z N13_36.out P59.out.ok.1 (by rw [zs.out, P59.out.ok.2.2]) P59.out.ok.2.1 ?_
      refine hK.out _ _ ?_ (fun hHeld => ?_)
      exact below_row H36.out G13_34.out _
      have H38 := hid (below_row H36.out G13_34.out c59)
      have N13_38 := hid (N13_36.out.row c59)
      clear hK K
      (try simp only [Act.put, zA, zB, zC])
      refine wpAnyH_done (by kernel_rfl) ?_ _
      go_wp2_with fail
      go_meet
      exact ⟨_, _, _, rfl, rfl, P59.out, N13_38.out, H38.out⟩
  case br26_5 =>
   go_simp
   refine hK.out _ _ ?_ (fun hHeld => ?_)
   ·exact (HB0.out.alloc HB0.out.size _)
   have H39 := hid (HB0.out.alloc HB0.out.size (.cells z 56))
   have N13_39 := hid (alloc_new HB0.out 56 z)
   have G13_39 := hid HB0.out.size
   clear hK K
   (try simp only [Act.put, zA, zB, zC])
   refine wpAnyH_ready (rs := [3]) (by kernel_rfl) (by simp) ?_
   refine' (AllReadyH.cons (o := _) ?hir40_3 (fun K hK => ?br40_3) AllReadyH.nil)
   case hir40_3 => (simp only [zD, zE, zF]; rfl)
   case br40_3 =>
    go_simp
    refine (CT.out k hk2 _ _ _ PA.out ((HK.out.below H39.out).more H39.out.size)).mono ?_
    rintro e w41 ⟨c58, rfl, hp41, hb41⟩
    have P58 := hid hp41
    have H41 := hid (H39.out.trans (hb41.mono H39.out.size))
    have N13_41 := hid (N13_39.out.old hb41)
    clear hp41 hb41
    go_wp2_with fail
    refine hK.out _ _ ?_ (fun hHeld => ?_)
    exact H41.out
    clear hK K
    (try simp only [Act.put, zA, zB, zC])
    refine wpAnyH_ready (rs := [4]) (by kernel_rfl) (by simp) ?_
    refine' (AllReadyH.cons (o := _) ?hir42_4 (fun K hK => ?br42_4) AllReadyH.nil)
    case hir42_4 => (simp only [zD, zE, zF]; rfl)
    case br42_4 =>
     go_simp
     refine (refAddPt_any PR.out P58.out _).mono ?_
     rintro e w43 ⟨c59, rfl, hp43, hb43⟩
     have P59 := hid hp43
     have H43 := hid (H41.out.trans (hb43.mono H41.out.size))
     have N13_43 := hid (N13_41.out.old hb43)
     clear hp43 hb43
     go_wp2_with fail
     refine hK.out _ _ ?_ (fun hHeld => ?_)
     exact H43.out
     clear hK K
     (try simp only [Act.put, zA, zB, zC])
     refine wpAnyH_ready (rs := [6]) (by kernel_rfl) (by simp) ?_
     refine' (AllReadyH.cons (o := _) ?hir44_6 (fun K hK => ?br44_6) AllReadyH.nil)
     case hir44_6 => (simp only [zD, zE, zF]; rfl)
     case br44_6 =>
      refine step_of_wp rfl ?_
      refine wp_store_row 56 (.tmp 13) (.tmp 59) rfl _ c59 rfl rfl 56 z N13_43.out P59.out.ok.1 (by rw [zs.out, P59.out.ok.2.2]) P59.out.ok.2.1 ?_
      refine hK.out _ _ ?_ (fun hHeld => ?_)
      exact below_row H43.out G13_39.out _
      have H45 := hid (below_row H43.out G13_39.out c59)
      have N13_45 := hid (N13_43.out.row c59)
      clear hK K
      (try simp only [Act.put, zA, zB, zC])
      refine wpAnyH_done (by kernel_rfl) ?_ _
      go_wp2_with fail
      go_meet
      exact ⟨_, _, _, rfl, rfl, P59.out, N13_45.out, H45.out⟩
 case rest =>
 obtain ⟨g9, c9, w7, hw7, rfl, hp9, hb9, hbb⟩ := hcut
 subst hw7
 have P9 := hid hp9
 have F9 := hid hb9
 have F8 := hid (F8.out.old hbb)
 have HB := hid (HB.out.trans (hbb.mono HB.out.size))
 clear hp9 hb9 hbb
 obtain ⟨e1, he1⟩ := named (enc (pmul ss pbase))
 obtain ⟨e2, he2⟩ := named (enc (padd pR (pmul k pA)))
 have CB1 : Hid (∀ V, Calls Tryz.prog 23 #[.agg c8] V fun e w' => ∃ s, e = .returned s ∧ w'.ownsRow V.heap.size 5 1 s 32 (Lib.byteCells (fbytes e1)) ∧ Below V.heap.size V w') := hid fun V => by rw [he1.out]; exact refPtBytes_any P8.out V
 have CB2 : Hid (∀ V, Calls Tryz.prog 23 #[.agg c9] V fun e w' => ∃ s, e = .returned s ∧ w'.ownsRow V.heap.size 5 1 s 32 (Lib.byteCells (fbytes e2)) ∧ Below V.heap.size V w') := hid fun V => by rw [he2.out]; exact refPtBytes_any P9.out V
 have hvv : Hid (vb = decide (fbytes e1 = fbytes e2)) := hid (by rw [hvl.out, ← he1.out, ← he2.out]; exact decide_eq_decide.2 (fbytes_inj (by rw [he1.out]; exact enc_lt _) (by rw [he2.out]; exact enc_lt _)).symm)
 have o8 := hid P8.out.ok
 have o9 := hid P9.out.ok
 go_upto_region 10 with fail
 (try simp only [Act.put, zA, zB, zC])
 refine wp_region_held_drew (S := fun V => Below w7.heap.size w7 V) (by kernel_rfl) (Below.refl _ _).drew (fun hHeld => ?_)
 have HB0 := hid ((Below.refl w7.heap.size w7).drew)
 generalize w7.drew = V0 at *
 refine' wpAnyH_take (i := 0) (oi := _) (v := .agg c8) ?hit46 ?hst46 ?hft46 ?hrt46 ?hQt46 ?hyt46 ?hSt46 ?_
 case hit46 => (simp only [zD, zE, zF]; rfl)
 case hst46 | hft46 | hrt46 => kernel_rfl
 case hQt46 => exact fun _ _ _ h => h
 case hSt46 => assumption
 case hyt46 =>
  refine Or.inl ⟨by rfl, ?_⟩
  intro W hS
  exact quiet_load_row 56 (.tmp 12) _ rfl 56 c8 _ (F8.out.old hS) Tryz.underlying56 rfl o8.out.1 rfl
 (try simp only [Act.put, zA, zB, zC])
 refine' wpAnyH_take (i := 3) (oi := _) (v := .agg c9) ?hit47 ?hst47 ?hft47 ?hrt47 ?hQt47 ?hyt47 ?hSt47 ?_
 case hit47 => (simp only [zD, zE, zF]; rfl)
 case hst47 | hft47 | hrt47 => kernel_rfl
 case hQt47 => exact fun _ _ _ h => h
 case hSt47 => assumption
 case hyt47 =>
  refine Or.inl ⟨by rfl, ?_⟩
  intro W hS
  exact quiet_load_row 56 (.tmp 13) _ rfl 56 c9 _ (F9.out.old hS) Tryz.underlying56 rfl o9.out.1 rfl
 (try simp only [Act.put, zA, zB, zC])
 refine wpAnyH_ready (rs := [1]) (by kernel_rfl) (by simp) ?_
 refine' (AllReadyH.cons (o := _) ?hir48_1 (fun K hK => ?br48_1) AllReadyH.nil)
 case hir48_1 => (simp only [zD, zE, zF]; rfl)
 case br48_1 =>
  go_simp
  refine (CB1.out _).mono ?_
  rintro e w49 ⟨r49, rfl, ho49, hb49⟩
  obtain ⟨A1, c1, rfl, _⟩ := own_slice ho49
  have HS1 := hid (Reads.of_own ho49)
  have H49 := hid (HB0.out.trans (hb49.mono HB0.out.size))
  clear ho49 hb49
  go_wp2_with fail
  refine hK.out _ _ ?_ (fun hHeld => ?_)
  exact H49.out
  clear hK K
  (try simp only [Act.put, zA, zB, zC])
  refine wpAnyH_ready (rs := [2, 4]) (by kernel_rfl) (by simp) ?_
  refine' (AllReadyH.cons (o := _) ?hir50_2 (fun K hK => ?br50_2) (AllReadyH.cons (o := _) ?hir50_4 (fun K hK => ?br50_4) AllReadyH.nil))
  case hir50_2 => (simp only [zD, zE, zF]; rfl)
  case hir50_4 => (simp only [zD, zE, zF]; rfl)
  case br50_2 =>
   refine step_of_wp rfl ?_
   refine wp_back (.tmp 61) _ 32 _ _ (fbytes e1) rfl HS1.out rfl ?_
   refine hK.out _ _ ?_ (fun hHeld => ?_)
   exact H49.out
   clear hK K
   (try simp only [Act.put, zA, zB, zC])
   refine wpAnyH_ready (rs := [4]) (by kernel_rfl) (by simp) ?_
   refine' (AllReadyH.cons (o := _) ?hir52_4 (fun K hK => ?br52_4) AllReadyH.nil)
   case hir52_4 => (simp only [zD, zE, zF]; rfl)
   case br52_4 =>
    go_simp
    refine (CB2.out _).mono ?_
    rintro e w53 ⟨r53, rfl, ho53, hb53⟩
    obtain ⟨A2, c2, rfl, _⟩ := own_slice ho53
    have HS1 := hid ((HS1.out.below hb53).more hb53.size)
    have HS2 := hid (Reads.of_own ho53)
    have H53 := hid (H49.out.trans (hb53.mono H49.out.size))
    clear ho53 hb53
    go_wp2_with fail
    refine hK.out _ _ ?_ (fun hHeld => ?_)
    exact H53.out
    clear hK K
    (try simp only [Act.put, zA, zB, zC])
    refine wpAnyH_ready (rs := [5]) (by kernel_rfl) (by simp) ?_
    refine' (AllReadyH.cons (o := _) ?hir54_5 (fun K hK => ?br54_5) AllReadyH.nil)
    case hir54_5 => (simp only [zD, zE, zF]; rfl)
    case br54_5 =>
     refine step_of_wp rfl ?_
     refine wp_back (.tmp 64) _ 32 _ _ (fbytes e2) rfl HS2.out rfl ?_
     refine hK.out _ _ ?_ (fun hHeld => ?_)
     exact H53.out
     clear hK K
     (try simp only [Act.put, zA, zB, zC])
     refine' wpAnyH_take (i := 6) (oi := _) (v := _) ?hit56 ?hst56 ?hft56 ?hrt56 ?hQt56 ?hyt56 ?hSt56 ?_
     case hit56 => (simp only [zD, zE, zF]; rfl)
     case hst56 | hft56 | hrt56 => kernel_rfl
     case hQt56 => exact fun _ _ _ h => h
     case hSt56 => assumption
     case hyt56 =>
      refine Or.inl ⟨by rfl, ?_⟩
      intro w hSw
      (try dsimp only at hSw)
      go_simp
      all_goals (with_reducible rfl)
     (try simp only [Act.put, zA, zB, zC])
     refine' wpAnyH_take (i := 7) (oi := _) (v := _) ?hit57 ?hst57 ?hft57 ?hrt57 ?hQt57 ?hyt57 ?hSt57 ?_
     case hit57 => (simp only [zD, zE, zF]; rfl)
     case hst57 | hft57 | hrt57 => kernel_rfl
     case hQt57 => exact fun _ _ _ h => h
     case hSt57 => assumption
     case hyt57 =>
      refine Or.inl ⟨by rfl, ?_⟩
      intro w hSw
      (try dsimp only at hSw)
      go_simp
      all_goals (with_reducible rfl)
     (try simp only [Act.put, zA, zB, zC])
     refine wpAnyH_done (by kernel_rfl) ?_ _
     have hbe := hid (HB.out.trans (H53.out.mono HB.out.size))
     clear hHeld
     go_wp2
     go_ret
     refine ⟨?_, hbe.out⟩
     rw [hvv.out]
     refine congrArg (fun b => Ending.returned (Value.bool b)) ?_
     rw [Bool.eq_iff_iff]
     simp
  case br50_4 =>
   go_simp
   refine (CB2.out _).mono ?_
   rintro e w58 ⟨r58, rfl, ho58, hb58⟩
   obtain ⟨A2, c2, rfl, _⟩ := own_slice ho58
   have HS1 := hid ((HS1.out.below hb58).more hb58.size)
   have HS2 := hid (Reads.of_own ho58)
   have H58 := hid (H49.out.trans (hb58.mono H49.out.size))
   clear ho58 hb58
   go_wp2_with fail
   refine hK.out _ _ ?_ (fun hHeld => ?_)
   exact H58.out
   clear hK K
   (try simp only [Act.put, zA, zB, zC])
   refine wpAnyH_ready (rs := [2, 5]) (by kernel_rfl) (by simp) ?_
   refine' (AllReadyH.cons (o := _) ?hir59_2 (fun K hK => ?br59_2) (AllReadyH.cons (o := _) ?hir59_5 (fun K hK => ?br59_5) AllReadyH.nil))
   case hir59_2 => (simp only [zD, zE, zF]; rfl)
   case hir59_5 => (simp only [zD, zE, zF]; rfl)
   case br59_2 =>
    refine step_of_wp rfl ?_
    refine wp_back (.tmp 61) _ 32 _ _ (fbytes e1) rfl HS1.out rfl ?_
    refine hK.out _ _ ?_ (fun hHeld => ?_)
    exact H58.out
    clear hK K
    (try simp only [Act.put, zA, zB, zC])
    refine wpAnyH_ready (rs := [5]) (by kernel_rfl) (by simp) ?_
    refine' (AllReadyH.cons (o := _) ?hir61_5 (fun K hK => ?br61_5) AllReadyH.nil)
    case hir61_5 => (simp only [zD, zE, zF]; rfl)
    case br61_5 =>
     refine step_of_wp rfl ?_
     refine wp_back (.tmp 64) _ 32 _ _ (fbytes e2) rfl HS2.out rfl ?_
     refine hK.out _ _ ?_ (fun hHeld => ?_)
     exact H58.out
     clear hK K
     (try simp only [Act.put, zA, zB, zC])
     refine' wpAnyH_take (i := 6) (oi := _) (v := _) ?hit63 ?hst63 ?hft63 ?hrt63 ?hQt63 ?hyt63 ?hSt63 ?_
     case hit63 => (simp only [zD, zE, zF]; rfl)
     case hst63 | hft63 | hrt63 => kernel_rfl
     case hQt63 => exact fun _ _ _ h => h
     case hSt63 => assumption
     case hyt63 =>
      refine Or.inl ⟨by rfl, ?_⟩
      intro w hSw
      (try dsimp only at hSw)
      go_simp
      all_goals (with_reducible rfl)
     (try simp only [Act.put, zA, zB, zC])
     refine' wpAnyH_take (i := 7) (oi := _) (v := _) ?hit64 ?hst64 ?hft64 ?hrt64 ?hQt64 ?hyt64 ?hSt64 ?_
     case hit64 => (simp only [zD, zE, zF]; rfl)
     case hst64 | hft64 | hrt64 => kernel_rfl
     case hQt64 => exact fun _ _ _ h => h
     case hSt64 => assumption
     case hyt64 =>
      refine Or.inl ⟨by rfl, ?_⟩
      intro w hSw
      (try dsimp only at hSw)
      go_simp
      all_goals (with_reducible rfl)
     (try simp only [Act.put, zA, zB, zC])
     refine wpAnyH_done (by kernel_rfl) ?_ _
     have hbe := hid (HB.out.trans (H58.out.mono HB.out.size))
     clear hHeld
     go_wp2
     go_ret
     refine ⟨?_, hbe.out⟩
     rw [hvv.out]
     refine congrArg (fun b => Ending.returned (Value.bool b)) ?_
     rw [Bool.eq_iff_iff]
     simp
   case br59_5 =>
    refine step_of_wp rfl ?_
    refine wp_back (.tmp 64) _ 32 _ _ (fbytes e2) rfl HS2.out rfl ?_
    refine hK.out _ _ ?_ (fun hHeld => ?_)
    exact H58.out
    clear hK K
    (try simp only [Act.put, zA, zB, zC])
    refine wpAnyH_ready (rs := [2]) (by kernel_rfl) (by simp) ?_
    refine' (AllReadyH.cons (o := _) ?hir66_2 (fun K hK => ?br66_2) AllReadyH.nil)
    case hir66_2 => (simp only [zD, zE, zF]; rfl)
    case br66_2 =>
     refine step_of_wp rfl ?_
     refine wp_back (.tmp 61) _ 32 _ _ (fbytes e1) rfl HS1.out rfl ?_
     refine hK.out _ _ ?_ (fun hHeld => ?_)
     exact H58.out
     clear hK K
     (try simp only [Act.put, zA, zB, zC])
     refine' wpAnyH_take (i := 6) (oi := _) (v := _) ?hit68 ?hst68 ?hft68 ?hrt68 ?hQt68 ?hyt68 ?hSt68 ?_
     case hit68 => (simp only [zD, zE, zF]; rfl)
     case hst68 | hft68 | hrt68 => kernel_rfl
     case hQt68 => exact fun _ _ _ h => h
     case hSt68 => assumption
     case hyt68 =>
      refine Or.inl ⟨by rfl, ?_⟩
      intro w hSw
      (try dsimp only at hSw)
      go_simp
      all_goals (with_reducible rfl)
     (try simp only [Act.put, zA, zB, zC])
     refine' wpAnyH_take (i := 7) (oi := _) (v := _) ?hit69 ?hst69 ?hft69 ?hrt69 ?hQt69 ?hyt69 ?hSt69 ?_
     case hit69 => (simp only [zD, zE, zF]; rfl)
     case hst69 | hft69 | hrt69 => kernel_rfl
     case hQt69 => exact fun _ _ _ h => h
     case hSt69 => assumption
     case hyt69 =>
      refine Or.inl ⟨by rfl, ?_⟩
      intro w hSw
      (try dsimp only at hSw)
      go_simp
      all_goals (with_reducible rfl)
     (try simp only [Act.put, zA, zB, zC])
     refine wpAnyH_done (by kernel_rfl) ?_ _
     have hbe := hid (HB.out.trans (H58.out.mono HB.out.size))
     clear hHeld
     go_wp2
     go_ret
     refine ⟨?_, hbe.out⟩
     rw [hvv.out]
     refine congrArg (fun b => Ending.returned (Value.bool b)) ?_
     rw [Bool.eq_iff_iff]
     simp
end Go.Proofs.YtcfogpeinjehbaaGreatDoor
end

section
namespace Go.Proofs.YtcfogpeinjehbaaGreatDoor
open Go Go.Proofs F5
open Sha (sumOf sumOf_length)
theorem pmul_neg_add (k : Nat) (p : Pt) : padd (pmul k p) (pmul k (pneg p)) = pzero := by
 induction k with
 | zero => exact padd_zero pzero
 | succ k ih =>
  show padd (padd (pmul k p) p) (padd (pmul k (pneg p)) (pneg p)) = pzero
  rw [padd_assoc, padd_comm p, padd_assoc, padd_comm (pneg p) p, padd_neg, padd_zero, ih]
theorem ver_prog {pub text sig : List UInt8} (h1 : pub.length = 32) (h2 : sig.length = 64) (h3 : bval (sig.drop 32) < LL) (hA : okP (bval pub)) :
  verB pub text sig = decide (ptL (padd (pmul (bval (sig.drop 32)) pbase) (pmul (restN (sig.take 32 ++ (pub ++ text))) (pneg (pget _ hA)))) = sig.take 32) := by
 have hl : (sig.take 32).length = 32 := by rw [List.length_take]; omega
 rw [Bool.eq_iff_iff, verB_true, decide_eq_true_eq]
 constructor
 ·rintro ⟨_, _, _, hA', hR, h⟩
  have e := enc_inj h
  rw [e, padd_assoc, pmul_neg_add, padd_zero]
  unfold ptL
  rw [enc_pget (bval_256 hl) hR, fbytes_bval hl]
 ·intro h
  have hb := (congrArg bval h).symm.trans (bval_fbytes (enc_lt _))
  have hR : okP (bval (sig.take 32)) := by rw [hb]; exact enc_ok _
  refine ⟨h1, h2, h3, hA, hR, ?_⟩
  rw [pget_of hb hR, padd_assoc, padd_comm (pmul _ (pneg _)), pmul_neg_add, padd_zero]
/-- The program's three bits of the secret number. -/
theorem sec_first : ∀ x : Fin 256, bits .andNot .u8 ((x.val : Nat) : Int) 7 = ((x.val - x.val % 8 : Nat) : Int) := by decide +kernel
theorem sec_cut : ∀ x : Fin 256, bits .andNot .u8 ((x.val : Nat) : Int) 128 = ((x.val % 128 : Nat) : Int) := by decide +kernel
theorem sec_set : ∀ x : Fin 128, bits .or .u8 ((x.val : Nat) : Int) 64 = ((x.val % 64 + 64 : Nat) : Int) := by decide +kernel
end Go.Proofs.YtcfogpeinjehbaaGreatDoor
end

section
namespace Go.Proofs.YtcfogpeinjehbaaGreatDoor
open Go Go.Proofs Go.RowKit F5
/-- What an operation of the first part does: it yields this value, or it makes a new variable. -/
inductive Pl where
 | is (v : Value)
 | fresh (T : TypeId) (z : Array Value)
def Pl.val (g : Nat) : Pl → Value
 | .is v => v
 | .fresh _ _ => .pointer (some ⟨g, 0, none⟩)
section
variable (ops : Array Oper) (PL : List Pl)
def dstOf (i : Nat) : Option Tmp := (ops[i]?).bind (·.dst)
def onsOf (i : Nat) : List Nat := match ops[i]? with | some o => (o.after.toList.filter (fun e => Region.binds .any e)).map (·.on) | none => []
def clo (ops : Array Oper) : Nat → List Nat → List Nat
 | 0, l => l
 | f + 1, l => clo ops f (l ++ l.flatMap (onsOf ops)).eraseDups
/-- Which temporary an operation may look at: one that no operation of the first part writes, or one that an operation which it waits for writes, and that is no new variable. -/
def looks (i : Nat) (t : Tmp) : Bool :=
 ((List.range PL.length).all fun j => dstOf ops j != some t) || ((onsOf ops i).any fun j => dstOf ops j == some t && (match PL[j]? with | some (.is _) => true | _ => false))
def chk (size : Nat) : Bool :=
 decide (PL.length ≤ ops.size) &&
 ((List.range PL.length).all fun i => (match ops[i]? with | some o => (match o.dst with | some d => decide (d < size) | none => false) | none => false) &&
  ((onsOf ops i).all fun j => decide (j < i)) && ((List.range PL.length).all fun j => j == i || dstOf ops i != dstOf ops j))
def cloB : Bool := (List.range ops.size).all fun j => decide (j < PL.length) || ((List.range PL.length).all fun i => (clo ops 12 (onsOf ops j)).contains i)
def listedM : Array Bool := (List.replicate PL.length true ++ List.replicate (ops.size - PL.length) false).toArray
def valOf (ops : Array Oper) (PL : List Pl) (A : Array Value) (t : Tmp) : Value :=
 match (List.range PL.length).find? (fun j => dstOf ops j == some t) with
 | some j => (match PL[j]? with | some (.is v) => v | _ => undef)
 | none => A.getD t undef
/-- The temporaries behind the first part. -/
def finT (g : Nat → Nat) : Nat → List Pl → Array Value → Array Value
 | _, [], A => A
 | k, p :: r, A => finT g (k + 1) r (match dstOf ops k with | some d => A.setIfInBounds d (p.val (g k)) | none => A)
end
def opA (ops : Array Oper) (k : Nat) : Oper := (ops[k]?).getD default
theorem opA_of {ops : Array Oper} {k : Nat} {o : Oper} (h : ops[k]? = some o) : opA ops k = o := by unfold opA; rw [h]; rfl
/-- An operation's contract in the first part. -/
def Good (P : Program) (ops : Array Oper) (PL : List Pl) (A : Array Value) (S : World → Prop) (k : Nat) : Pl → Prop
 | .is v => ∀ (a : Act) (V : World), (∀ t, looks ops PL k t = true → a.tmps.getD t undef = valOf ops PL A t) → S V → (Region.wanted (opA ops k) (yielded ops a.tmps) = true ∧ ∀ (K : Act → World → Prop) (Q : Exit → Act → World → Prop),
   (∀ V', Below V.heap.size V V' → K (a.put (opA ops k).dst v) V') → (opA ops k).wp P a V K Q) ∨ (Region.wanted (opA ops k) (yielded ops a.tmps) = false ∧ v = undef)
 | .fresh T z => (ops[k]?).map (fun o => (o.op, o.guard)) = some (.alloc T, none) ∧ ∀ W, (zeroValue T).run P W = .ok (.agg z) W
def Goods (P : Program) (ops : Array Oper) (PL : List Pl) (A : Array Value) (S : World → Prop) : Nat → List Pl → Prop
 | _, [] => True
 | k, p :: r => Good P ops PL A S k p ∧ Goods P ops PL A S (k + 1) r
theorem goods_at {P : Program} {ops : Array Oper} {PL : List Pl} {A : Array Value} {S : World → Prop} : ∀ (l : List Pl) (k : Nat), Goods P ops PL A S k l → ∀ i p, l[i]? = some p → Good P ops PL A S (k + i) p
 | [], _, _, i, p, h => by simp at h
 | q :: r, k, hg, 0, p, h => by simp at h; subst h; exact hg.1
 | q :: r, k, hg, i + 1, p, h => by
  have := goods_at r (k + 1) hg.2 i p (by simpa using h)
  rwa [show k + 1 + i = k + (i + 1) by omega] at this
structure SInv (ops : Array Oper) (PL : List Pl) (a0 : Act) (w0 : World) (listed : Array Bool) (a : Act) (w : World) : Prop where
 defers : a.defers = a0.defers
 size : a.tmps.size = a0.tmps.size
 lsize : listed.size = ops.size
 far : ∀ t, (∀ i, i < PL.length → dstOf ops i = some t → listed.getD i true = false) → a.tmps.getD t undef = a0.tmps.getD t undef
 is : ∀ i v d, PL[i]? = some (.is v) → listed.getD i true = true → dstOf ops i = some d → a.tmps.getD d undef = v
 fresh : ∀ i T z d, PL[i]? = some (.fresh T z) → listed.getD i true = true → dstOf ops i = some d → ∃ g, a.tmps.getD d undef = .pointer (some ⟨g, 0, none⟩) ∧ w0.heap.size ≤ g ∧ Blk w g T z
 apart : ∀ i j T z T' z' d d', PL[i]? = some (.fresh T z) → PL[j]? = some (.fresh T' z') → i ≠ j → listed.getD i true = true → listed.getD j true = true → dstOf ops i = some d → dstOf ops j = some d' → a.tmps.getD d undef ≠ a.tmps.getD d' undef
 below : Below w0.heap.size w0 w
 late : ∀ i, PL.length ≤ i → i < ops.size → listed.getD i true = false
 down : ∀ i, i < PL.length → listed.getD i true = true → ∀ j ∈ onsOf ops i, listed.getD j false = true
theorem onsOf_of {ops : Array Oper} {i : Nat} {o : Oper} (ho : ops[i]? = some o) {listed : Array Bool} (h : ∀ e ∈ o.after, Region.binds .any e = true → listed.getD e.on false = true) : ∀ j ∈ onsOf ops i, listed.getD j false = true := by
 intro j hj
 unfold onsOf at hj
 rw [ho] at hj
 simp only [List.mem_map, List.mem_filter] at hj
 obtain ⟨e, ⟨he, hb⟩, rfl⟩ := hj
 exact h e (by simpa using he) hb
theorem clo_listed {ops : Array Oper} {listed : Array Bool} (hd : ∀ i, listed.getD i false = true → ∀ j ∈ onsOf ops i, listed.getD j false = true) : ∀ (f : Nat) (l : List Nat), (∀ x ∈ l, listed.getD x false = true) → ∀ x ∈ clo ops f l, listed.getD x false = true
 | 0, l, h => h
 | f + 1, l, h => by
  unfold clo
  refine clo_listed hd f _ fun x hx => ?_
  rw [List.mem_eraseDups, List.mem_append, List.mem_flatMap] at hx
  rcases hx with hx | ⟨y, hy, hx⟩
  ·exact h x hx
  ·exact hd y (h y hy) x hx
theorem getD_tf {listed : Array Bool} {i : Nat} (h : i < listed.size) : listed.getD i true = listed.getD i false := by
 simp [Array.getD_eq_getD_getElem?, h]
theorem getD_lt {listed : Array Bool} {i : Nat} (h : listed.getD i false = true) : i < listed.size := by
 rcases Nat.lt_or_ge i listed.size with h' | h'
 ·exact h'
 ·simp [Array.getD_eq_getD_getElem?, Array.getElem?_eq_none h'] at h
theorem getD_lt' {listed : Array Bool} {i : Nat} (h : listed.getD i true = false) : i < listed.size := by
 rcases Nat.lt_or_ge i listed.size with h' | h'
 ·exact h'
 ·simp [Array.getD_eq_getD_getElem?, Array.getElem?_eq_none h'] at h
theorem getD_set_eq {listed : Array Bool} {i j : Nat} (hi : i < listed.size) : (listed.setIfInBounds i true).getD j true = if j = i then true else listed.getD j true := by
 split
 ·rename_i h; subst h; simp [Array.getD_eq_getD_getElem?, hi]
 ·rename_i h; exact getD_set_ne true (fun e => h e.symm)
theorem tget_set {A : Array Value} {d t : Nat} {v : Value} (h : d < A.size) : (A.setIfInBounds d v).getD t undef = if t = d then v else A.getD t undef := by
 split
 ·rename_i h1; subst h1; simp [Array.getD_eq_getD_getElem?, h]
 ·rename_i h1; simp [Array.getD_eq_getD_getElem?, Array.getElem?_setIfInBounds_ne (fun e => h1 e.symm)]
theorem put_tmps {a : Act} {o : Oper} {d : Tmp} (hd : o.dst = some d) (u : Value) : (a.put o.dst u).tmps = a.tmps.setIfInBounds d u := by rw [hd]; rfl
theorem put_defs {a : Act} (o : Oper) (u : Value) : (a.put o.dst u).defers = a.defers := by unfold Act.put; split <;> rfl
structure Chk (ops : Array Oper) (PL : List Pl) (size : Nat) : Prop where
 le : PL.length ≤ ops.size
 op : ∀ i, i < PL.length → ∃ o d, ops[i]? = some o ∧ o.dst = some d ∧ d < size
 small : ∀ i, i < PL.length → ∀ j ∈ onsOf ops i, j < i
 ne : ∀ i j, i < PL.length → j < PL.length → i ≠ j → dstOf ops i ≠ dstOf ops j
theorem clo_spec {ops : Array Oper} {PL : List Pl} (h : cloB ops PL = true) : ∀ j, PL.length ≤ j → j < ops.size → ∀ i, i < PL.length → i ∈ clo ops 12 (onsOf ops j) := by
 unfold cloB at h
 simp only [decide_eq_true_eq, List.all_eq_true, List.mem_range, Bool.or_eq_true] at h
 intro j hj hj2 i hi
 rcases h j hj2 with h4 | h4
 ·exact absurd h4 (by omega)
 ·have := h4 i hi
  simpa using this
theorem chk_spec {ops : Array Oper} {PL : List Pl} {size : Nat} (h : chk ops PL size = true) : Chk ops PL size := by
 unfold chk at h
 simp only [Bool.and_eq_true, decide_eq_true_eq, List.all_eq_true, List.mem_range, Bool.or_eq_true] at h
 obtain ⟨h1, h2⟩ := h
 refine ⟨h1, fun i hi => ?_, fun i hi j hj => (h2 i hi).1.2 j hj, fun i j hi hj hne e => ?_⟩
 ·have h4 := (h2 i hi).1.1
  cases ho : ops[i]? with
  | none => rw [ho] at h4; simp at h4
  | some o =>
   rw [ho] at h4
   cases hd : o.dst with
   | none => simp [hd] at h4
   | some d =>
    simp only [hd, decide_eq_true_eq] at h4
    exact ⟨o, d, rfl, hd, h4⟩
 ·have h4 := (h2 i hi).2 j hj
  rcases h4 with h4 | h4
  ·simp at h4; exact hne h4.symm
  ·rw [e] at h4; simp at h4
theorem SInv.next {ops : Array Oper} {PL : List Pl} {a0 a : Act} {w0 w V : World} {listed : Array Bool} (h : SInv ops PL a0 w0 listed a w) (hc : Chk ops PL a0.tmps.size) {i : Nat} (him : i < PL.length) (hun : listed.getD i true = false) {o : Oper} (ho : ops[i]? = some o)
  (hdeps : ∀ j ∈ onsOf ops i, listed.getD j false = true) {d : Tmp} (hd : o.dst = some d) (hds : d < a0.tmps.size) {p : Pl} (hp : PL[i]? = some p) (hb : Below w.heap.size w V) (u : Value)
  (hu : p = .is u ∨ ∃ T z, p = .fresh T z ∧ u = .pointer (some ⟨w.heap.size, 0, none⟩) ∧ Blk V w.heap.size T z) : SInv ops PL a0 w0 (listed.setIfInBounds i true) (a.put o.dst u) V := by
 have hil := getD_lt' hun
 have hdi : dstOf ops i = some d := by unfold dstOf; rw [ho]; exact hd
 have hget : ∀ t, (a.put o.dst u).tmps.getD t undef = if t = d then u else a.tmps.getD t undef := fun t => by rw [put_tmps hd]; exact tget_set (by rw [h.size]; exact hds)
 have hoth : ∀ j d', j < PL.length → j ≠ i → dstOf ops j = some d' → d' ≠ d := fun j d' hj hne hj' e => hc.ne j i hj him hne (by rw [hj', hdi, e])
 have hold : ∀ j, (listed.setIfInBounds i true).getD j true = true → j ≠ i → listed.getD j true = true := fun j hj hne => by rw [getD_set_eq hil, if_neg hne] at hj; exact hj
 have hlen : ∀ (j : Nat) (q : Pl), PL[j]? = some q → j < PL.length := fun j q hq => (List.getElem?_eq_some_iff.1 hq).1
 refine ⟨?_, ?_, ?_, ?_, ?_, ?_, ?_, ?_, ?_, ?_⟩
 ·rw [put_defs]; exact h.defers
 ·rw [put_tmps hd]; simp [h.size]
 ·simp [h.lsize]
 ·intro t ht
  have htd : t ≠ d := fun e => by
   have := ht i him (by rw [hdi, e])
   rw [getD_set_eq hil, if_pos rfl] at this; cases this
  rw [hget, if_neg htd]
  refine h.far t fun j hj hjt => ?_
  have := ht j hj hjt
  rw [getD_set_eq hil] at this
  split at this
  ·cases this
  ·exact this
 ·intro j v d' hj hl hdj
  rw [hget]
  by_cases e : j = i
  ·subst e
   rw [hp] at hj; injection hj with hj
   rw [hdi] at hdj; injection hdj with hdj
   rw [if_pos hdj.symm]
   rcases hu with hu | ⟨T, z, hu, _⟩
   ·rw [hu] at hj; injection hj
   ·rw [hu] at hj; cases hj
  ·rw [if_neg (hoth j d' (hlen _ _ hj) e hdj)]
   exact h.is j v d' hj (hold j hl e) hdj
 ·intro j T z d' hj hl hdj
  rw [hget]
  by_cases e : j = i
  ·subst e
   rw [hp] at hj; injection hj with hj
   rw [hdi] at hdj; injection hdj with hdj
   rw [if_pos hdj.symm]
   rcases hu with hu | ⟨T', z', hu, hu2, hu3⟩
   ·rw [hu] at hj; cases hj
   ·rw [hu] at hj; injection hj with e1 e2
    subst e1 e2
    exact ⟨_, hu2, h.below.size, hu3⟩
  ·rw [if_neg (hoth j d' (hlen _ _ hj) e hdj)]
   obtain ⟨g, h1, h2, h3⟩ := h.fresh j T z d' hj (hold j hl e) hdj
   exact ⟨g, h1, h2, h3.old hb⟩
 ·intro j k T z T' z' dj dk hj hk hne hlj hlk hdj hdk
  rw [hget, hget]
  by_cases ej : j = i
  ·subst ej
   have ek : k ≠ j := fun e => hne e.symm
   rw [hdi] at hdj; injection hdj with hdj
   rw [if_pos hdj.symm, if_neg (hoth k dk (hlen _ _ hk) ek hdk)]
   obtain ⟨g, h1, h2, h3⟩ := h.fresh k T' z' dk hk (hold k hlk ek) hdk
   rw [h1]
   rcases hu with hu | ⟨T2, z2, hu, hu2, hu3⟩
   ·rw [hp, hu] at hj; cases hj
   ·rw [hu2]
    intro e
    injection e with e
    injection e with e
    injection e with e
    have := h3.lt
    omega
  ·rw [if_neg (hoth j dj (hlen _ _ hj) ej hdj)]
   by_cases ek : k = i
   ·subst ek
    rw [hdi] at hdk; injection hdk with hdk
    rw [if_pos hdk.symm]
    obtain ⟨g, h1, h2, h3⟩ := h.fresh j T z dj hj (hold j hlj ej) hdj
    rw [h1]
    rcases hu with hu | ⟨T2, z2, hu, hu2, hu3⟩
    ·rw [hp, hu] at hk; cases hk
    ·rw [hu2]
     intro e
     injection e with e
     injection e with e
     injection e with e
     have := h3.lt
     omega
   ·rw [if_neg (hoth k dk (hlen _ _ hk) ek hdk)]
    exact h.apart j k T z T' z' dj dk hj hk hne (hold j hlj ej) (hold k hlk ek) hdj hdk
 ·exact h.below.trans (hb.mono h.below.size)
 ·intro j hj hj2
  rw [getD_set_eq hil, if_neg (by omega)]
  exact h.late j hj hj2
 ·intro j hj hl k hk
  by_cases e : j = i
  ·subst e
   exact getD_set_true (hdeps k hk)
  ·exact getD_set_true (h.down j hj (hold j hl e) k hk)
theorem listedM_size {ops : Array Oper} {PL : List Pl} (h : PL.length ≤ ops.size) : (listedM ops PL).size = ops.size := by simp [listedM]; omega
theorem listedM_at {ops : Array Oper} {PL : List Pl} (i : Nat) (h : i < PL.length) : (listedM ops PL).getD i true = true := by
 simp [listedM, Array.getD_eq_getD_getElem?, List.getElem?_append_left, h]
theorem listed_eq {ops : Array Oper} {PL : List Pl} {a0 a : Act} {w0 w : World} {listed : Array Bool} (h : SInv ops PL a0 w0 listed a w) (hle : PL.length ≤ ops.size) (hall : ∀ i, i < PL.length → listed.getD i true = true) : listed = listedM ops PL := by
 refine Array.ext (by rw [h.lsize, listedM_size hle]) fun i h1 h2 => ?_
 by_cases hi : i < PL.length
 ·have e1 := hall i hi
  have e2 := listedM_at (ops := ops) i hi
  simp only [Array.getD_eq_getD_getElem?, Array.getElem?_eq_getElem h1, Option.getD_some] at e1
  simp only [Array.getD_eq_getD_getElem?, Array.getElem?_eq_getElem h2, Option.getD_some] at e2
  rw [e1, e2]
 ·have e1 := h.late i (by omega) (by rw [← h.lsize]; exact h1)
  simp only [Array.getD_eq_getD_getElem?, Array.getElem?_eq_getElem h1, Option.getD_some] at e1
  rw [e1]
  simp [listedM, List.getElem_append_right, Nat.not_lt.1 hi]
theorem count_set {listed : Array Bool} {i : Nat} (h : listed.getD i true = false) : (listed.setIfInBounds i true).toList.count true = listed.toList.count true + 1 := by
 have hl := getD_lt' h
 have hv : listed.toList[i]'(by simpa using hl) = false := by
  simp only [Array.getD_eq_getD_getElem?, Array.getElem?_eq_getElem hl, Option.getD_some] at h
  simpa using h
 rw [Array.toList_setIfInBounds, List.count_set (by simpa using hl), hv]
 simp
theorem count_all {l : List Bool} (h : l.count true = l.length) (i : Nat) (hi : i < l.length) : l[i] = true := by
 have := List.count_eq_length.1 h
 exact (this _ (List.getElem_mem hi)).symm
theorem sched_op {P : Program} {ops : Array Oper} {PL : List Pl} {a0 : Act} {w0 : World} {Q : Exit → Act → World → Prop} {S : World → Prop} (hc : Chk ops PL a0.tmps.size) (hg : Goods P ops PL a0.tmps S 0 PL) (hS : ∀ V, Below w0.heap.size w0 V → S V)
  {listed : Array Bool} {a : Act} {w : World} (h : SInv ops PL a0 w0 listed a w) {i : Nat} (him : i < PL.length) (hun : listed.getD i true = false) (hdeps : ∀ j ∈ onsOf ops i, listed.getD j false = true) {K : Act → World → Prop}
  (hK : ∀ a' V, SInv ops PL a0 w0 (listed.setIfInBounds i true) a' V → K a' V) : wpOp P ops Q i K a w := by
 obtain ⟨o, d, ho, hd, hds⟩ := hc.op i him
 have hos : i < ops.size := by rw [← h.lsize]; exact getD_lt' hun
 obtain ⟨p, hp⟩ : ∃ p, PL[i]? = some p := ⟨_, List.getElem?_eq_getElem him⟩
 have good := goods_at PL 0 hg i p hp
 rw [Nat.zero_add] at good
 unfold wpOp
 simp only [ho]
 have hnext : ∀ u V, Below w.heap.size w V → (p = .is u ∨ ∃ T z, p = .fresh T z ∧ u = .pointer (some ⟨w.heap.size, 0, none⟩) ∧ Blk V w.heap.size T z) → K (a.put o.dst u) V := fun u V hb hu =>
  hK _ _ (h.next hc him hun ho hdeps hd hds hp hb u hu)
 cases p with
 | is v =>
  have good2 := good a w (fun t ht => ?_) (hS w h.below)
  ·rw [opA_of ho] at good2
   rcases good2 with ⟨hw, good2⟩ | ⟨hw, rfl⟩
   ·rw [if_pos hw]
    exact .inl (good2 _ _ (fun V hb => hnext v V hb (.inl rfl)))
   ·rw [if_neg (by rw [hw]; decide)]
    exact hnext _ w (Below.refl _ _) (.inl rfl)
  ·unfold looks at ht
   rw [Bool.or_eq_true] at ht
   unfold valOf
   rcases ht with ht | ht
   ·have hno : (List.range PL.length).find? (fun j => dstOf ops j == some t) = none := by
     rw [List.find?_eq_none]
     intro j hj
     have := List.all_eq_true.1 ht j hj
     simpa using this
    rw [hno]
    refine h.far t fun j hj hjt => ?_
    have := List.all_eq_true.1 ht j (List.mem_range.2 hj)
    rw [hjt] at this
    simp at this
   ·obtain ⟨j, hj, hj2⟩ := List.any_eq_true.1 ht
    rw [Bool.and_eq_true] at hj2
    obtain ⟨hj2, hj3⟩ := hj2
    have hjt : dstOf ops j = some t := by simpa using hj2
    have hji := hc.small i him j hj
    have hjm : j < PL.length := by omega
    have hfind : (List.range PL.length).find? (fun j => dstOf ops j == some t) = some j := by
     rw [List.find?_range_eq_some]
     refine ⟨by simpa using hjt, List.mem_range.2 hjm, fun k hk => ?_⟩
     have := hc.ne k j (by omega) hjm (by omega)
     rw [hjt] at this
     simpa using this
    rw [hfind]
    obtain ⟨q, hq⟩ : ∃ q, PL[j]? = some q := ⟨_, List.getElem?_eq_getElem hjm⟩
    simp only [hq] at hj3 ⊢
    cases q with
    | is v' => exact h.is j v' t hq (by rw [getD_tf (by rw [h.lsize]; omega)]; exact hdeps j hj) hjt
    | fresh _ _ => simp at hj3
 | fresh T z =>
  obtain ⟨hop, hz⟩ := good
  rw [ho] at hop
  simp only [Option.map_some, Option.some.injEq, Prod.mk.injEq] at hop
  obtain ⟨hop, hgd⟩ := hop
  have hw : Region.wanted o (yielded ops a.tmps) = true := by unfold Region.wanted; rw [hgd]
  rw [if_pos hw]
  refine .inl ?_
  have hrun : (execOp a.eval o).run P w = .ok (.value (.pointer (some ⟨w.heap.size, 0, none⟩))) (w.alloc (.cells z T)) := by
   unfold execOp
   simp only [hop, Instr.alloc, Sem.run_bind, hz, Result.andThen_ok, Sem.run_pure]
   simp [go_sem]
  unfold Oper.wp
  rw [hrun, Oper.upon_value]
  exact hnext _ _ ((Below.refl _ _).alloc (Nat.le_refl _) _) (.inr ⟨T, z, rfl, rfl, Blk.new w T z⟩)
theorem wpAny_sched {P : Program} {ops : Array Oper} {PL : List Pl} {a0 : Act} {w0 : World} {Q : Exit → Act → World → Prop} {S : World → Prop} (hc : Chk ops PL a0.tmps.size) (hcl : cloB ops PL = true) (hg : Goods P ops PL a0.tmps S 0 PL) (hS : ∀ V, Below w0.heap.size w0 V → S V)
  (hfin : ∀ a V, SInv ops PL a0 w0 (listedM ops PL) a V → wpAny P .any ops Q (ops.size - PL.length) (listedM ops PL) a V) :
  ∀ (fuel : Nat) (listed : Array Bool) (a : Act) (w : World), SInv ops PL a0 w0 listed a w → listed.toList.count true + fuel = ops.size → wpAny P .any ops Q fuel listed a w := by
 intro fuel
 induction fuel with
 | zero =>
  intro listed a w h hn
  have hall : ∀ i, i < PL.length → listed.getD i true = true := fun i hi => by
   have hl : i < listed.size := by rw [h.lsize]; exact Nat.lt_of_lt_of_le hi hc.le
   have := count_all (l := listed.toList) (by rw [Array.length_toList, h.lsize]; omega) i (by simpa using hl)
   simp only [Array.getD_eq_getD_getElem?, Array.getElem?_eq_getElem hl, Option.getD_some]
   simpa using this
  have e := listed_eq h hc.le hall
  subst e
  have := hfin a w h
  have hcnt : (listedM ops PL).toList.count true = PL.length := by simp [listedM, List.count_replicate]
  rw [hcnt] at hn
  rw [show ops.size - PL.length = 0 by omega] at this
  exact this
 | succ fuel ih =>
  intro listed a w h hn
  by_cases hall : ∀ i, i < PL.length → listed.getD i true = true
  ·have e := listed_eq h hc.le hall
   subst e
   have := hfin a w h
   have hcnt : (listedM ops PL).toList.count true = PL.length := by simp [listedM, List.count_replicate]
   rw [hcnt] at hn
   rw [show ops.size - PL.length = fuel + 1 by omega] at this
   exact this
  ·refine ⟨fun hr => ?_, fun i hi => ?_⟩
   ·exfalso
    apply hall
    intro i
    induction i using Nat.strongRecOn with
    | ind i ihi =>
     intro him
     cases hl : listed.getD i true with
     | true => rfl
     | false =>
      obtain ⟨o, d, ho, _, _⟩ := hc.op i him
      have : i ∈ Region.ready .any ops listed := mem_ready.2 ⟨hl, o, ho, fun e he hb => by
       have hj : e.on ∈ onsOf ops i := by
        unfold onsOf; rw [ho]
        simp only [List.mem_map, List.mem_filter]
        exact ⟨e, ⟨by simpa using he, hb⟩, rfl⟩
       have hlt := hc.small i him _ hj
       have := ihi _ hlt (by omega)
       rwa [getD_tf (by rw [h.lsize]; have := hc.le; omega)] at this⟩
      rw [hr] at this; cases this
   ·obtain ⟨hun, o, ho, hdep⟩ := mem_ready.1 hi
    have hdeps := onsOf_of ho hdep
    have hos : i < ops.size := by rw [← h.lsize]; exact getD_lt' hun
    by_cases him : i < PL.length
    ·exact sched_op hc hg hS h him hun hdeps fun a' V h' => ih _ _ _ h' (by rw [count_set hun]; omega)
    ·exfalso
     apply hall
     have hd : ∀ k, listed.getD k false = true → ∀ j ∈ onsOf ops k, listed.getD j false = true := fun k hk => by
      have hks := getD_lt hk
      by_cases hkm : k < PL.length
      ·exact h.down k hkm (by rw [getD_tf hks]; exact hk)
      ·have := h.late k (by omega) (by rw [← h.lsize]; exact hks)
       rw [getD_tf hks, hk] at this; cases this
     intro j hj
     have := clo_listed hd 12 _ hdeps j (clo_spec hcl i (by omega) hos j hj)
     rw [getD_tf (getD_lt this)]; exact this
theorem finT_eq {ops : Array Oper} {g : Nat → Nat} {B : Array Value} : ∀ (l : List Pl) (k : Nat) (A : Array Value), B.size = A.size →
  (∀ i p d, l[i]? = some p → dstOf ops (k + i) = some d → d < A.size → B.getD d undef = p.val (g (k + i))) →
  (∀ t, (∀ i, i < l.length → dstOf ops (k + i) ≠ some t) → B.getD t undef = A.getD t undef) → finT ops g k l A = B
 | [], k, A, hs, _, hf => by
  unfold finT
  refine (Array.ext hs fun i h1 h2 => ?_).symm
  have := hf i (fun _ h => absurd h (Nat.not_lt_zero _))
  simpa [Array.getD_eq_getD_getElem?, h1, h2] using this
 | p :: r, k, A, hs, hv, hf => by
  unfold finT
  refine finT_eq r (k + 1) _ (by split <;> simp [hs]) (fun i q d hq hd hlt => ?_) (fun t ht => ?_)
  ·have := hv (i + 1) q d (by simpa using hq) (by rw [← hd]; congr 1; omega) (by split at hlt <;> simpa using hlt)
   rw [this]; congr 2; omega
  ·split
   ·rename_i d hd
    by_cases hlt : d < A.size
    ·rw [tget_set hlt]
     split
     ·rename_i e; subst e
      exact hv 0 p t rfl hd hlt
     ·rename_i e
      refine hf t fun i hi hit => ?_
      cases i with
      | zero => rw [Nat.add_zero, hd] at hit; injection hit with hit; exact e hit.symm
      | succ i => exact ht i (by simpa using hi) (by rw [← hit]; congr 1; omega)
    ·have hle : A.size ≤ d := Nat.le_of_not_lt hlt
     rw [Array.setIfInBounds_eq_of_size_le hle]
     by_cases e : t = d
     ·subst e
      simp [Array.getD_eq_getD_getElem?, Array.getElem?_eq_none (show B.size ≤ t from hs ▸ hle), Array.getElem?_eq_none hle]
     ·refine hf t fun i hi hit => ?_
      cases i with
      | zero => rw [Nat.add_zero, hd] at hit; injection hit with hit; exact e hit.symm
      | succ i => exact ht i (by simpa using hi) (by rw [← hit]; congr 1; omega)
   ·rename_i hd
    refine hf t fun i hi hit => ?_
    cases i with
    | zero => rw [Nat.add_zero, hd] at hit; cases hit
    | succ i => exact ht i (by simpa using hi) (by rw [← hit]; congr 1; omega)
/-- What is known behind the first part: the new variables, each in a block of its own, and what lay below is as it was. -/
structure SFin (PL : List Pl) (g : Nat → Nat) (w0 V : World) : Prop where
 blk : ∀ i T z, PL[i]? = some (.fresh T z) → w0.heap.size ≤ g i ∧ Blk V (g i) T z
 ne : ∀ i j T z T' z', PL[i]? = some (.fresh T z) → PL[j]? = some (.fresh T' z') → i ≠ j → g i ≠ g j
 below : Below w0.heap.size w0 V
/-- The first k are listed. -/
def listedK (n k : Nat) : Array Bool := (List.replicate k true ++ List.replicate (n - k) false).toArray
theorem listedK_set {n k : Nat} (h : k < n) : (listedK n k).setIfInBounds k true = listedK n (k + 1) := by
 unfold listedK
 simp only [List.setIfInBounds_toArray, Array.mk.injEq]
 rw [List.set_append_right _ _ (by simp), List.length_replicate, Nat.sub_self, show n - k = (n - (k + 1)) + 1 by omega, List.replicate_succ, List.set_cons_zero, List.replicate_succ', List.append_assoc]
 rfl
def seqd (ops : Array Oper) (m : Nat) : Bool := (List.range (ops.size - m)).all (fun k => Region.ready .any ops (listedK ops.size (m + k)) == [m + k]) && Region.ready .any ops (listedK ops.size ops.size) == []
theorem wpAny_tail {P : Program} {ops : Array Oper} {Q : Exit → Act → World → Prop} {m : Nat} (hs : seqd ops m = true) : ∀ (f k : Nat) (a : Act) (w : World), k + f = ops.size - m → m ≤ ops.size → wpList P ops Q (ops.toList.drop (m + k)) a w → wpAny P .any ops Q f (listedK ops.size (m + k)) a w
 | 0, k, a, w, hk, hm, h => by
  unfold seqd at hs
  rw [Bool.and_eq_true] at hs
  have e : m + k = ops.size := by omega
  rw [e] at h ⊢
  rw [List.drop_of_length_le (by simp)] at h
  exact ⟨by simpa using hs.2, h⟩
 | f + 1, k, a, w, hk, hm, h => by
  have hs' := hs
  unfold seqd at hs
  rw [Bool.and_eq_true, List.all_eq_true] at hs
  have hr : Region.ready .any ops (listedK ops.size (m + k)) = [m + k] := by have := hs.1 k (List.mem_range.2 (by omega)); simpa using this
  have hlt : m + k < ops.size := by omega
  refine ⟨fun h0 => (by rw [hr] at h0; cases h0), fun i hi => ?_⟩
  rw [hr] at hi
  obtain rfl : i = m + k := by simpa using hi
  have ho : ops[m + k]? = some ops[m + k] := Array.getElem?_eq_getElem hlt
  have hl : ops.toList.drop (m + k) = ops[m + k] :: ops.toList.drop (m + (k + 1)) := by
   rw [List.drop_eq_getElem_cons (by simpa using hlt)]; rfl
  rw [hl] at h
  unfold wpList at h
  unfold wpOp
  simp only [ho]
  rw [listedK_set hlt]
  have ih := fun a w => wpAny_tail (P := P) (Q := Q) hs' f (k + 1) a w (by omega) hm
  split
  ·rename_i hw
   rw [if_pos hw] at h
   exact h.imp (Oper.wp_mono fun a w hh => ih a w hh) id
  ·rename_i hw
   rw [if_neg hw] at h
   exact ih _ _ h
theorem sinv_start {ops : Array Oper} {PL : List Pl} {a0 : Act} {w0 w1 : World} (HC : Chk ops PL a0.tmps.size) (hb : Below w0.heap.size w0 w1) : SInv ops PL a0 w0 (Array.replicate ops.size false) a0 w1 := by
 have hf : ∀ i, i < ops.size → (Array.replicate ops.size false).getD i true = false := fun i hi => by simp [Array.getD_eq_getD_getElem?, Array.getElem?_replicate, hi]
 have hno : ∀ i, i < PL.length → (Array.replicate ops.size false).getD i true = true → False := fun i hi hl => by
  rw [hf i (Nat.lt_of_lt_of_le hi HC.le)] at hl; cases hl
 exact ⟨rfl, rfl, by simp, fun t _ => rfl, fun i v d hp hl => (hno i (List.getElem?_eq_some_iff.1 hp).1 hl).elim, fun i T z d hp hl => (hno i (List.getElem?_eq_some_iff.1 hp).1 hl).elim,
  fun i j T z T' z' d d' hp _ _ hl => (hno i (List.getElem?_eq_some_iff.1 hp).1 hl).elim, hb, fun i _ hi => hf i hi, fun i hi hl => (hno i hi hl).elim⟩
theorem sinv_end {ops : Array Oper} {PL : List Pl} {a0 a : Act} {w0 V : World} (HC : Chk ops PL a0.tmps.size) (h : SInv ops PL a0 w0 (listedM ops PL) a V) : ∃ g : Nat → Nat, SFin PL g w0 V ∧ finT ops g 0 PL a0.tmps = a.tmps := by
 obtain ⟨g, hgd⟩ : ∃ g : Nat → Nat, ∀ i T z d, PL[i]? = some (.fresh T z) → dstOf ops i = some d → a.tmps.getD d undef = .pointer (some ⟨g i, 0, none⟩) ∧ w0.heap.size ≤ g i ∧ Blk V (g i) T z := by
  refine ⟨fun i => match (dstOf ops i).map fun d => a.tmps.getD d undef with | some (.pointer (some ad)) => ad.block | _ => 0, fun i T z d hp hd => ?_⟩
  have hi := (List.getElem?_eq_some_iff.1 hp).1
  obtain ⟨g, h1, h2, h3⟩ := h.fresh i T z d hp (listedM_at i hi) hd
  simp only [hd, Option.map_some, h1]
  exact ⟨trivial, h2, h3⟩
 have hd0 : ∀ i, i < PL.length → ∃ d, dstOf ops i = some d := fun i hi => by
  obtain ⟨o, d, ho, hd, _⟩ := HC.op i hi
  exact ⟨d, by unfold dstOf; rw [ho]; exact hd⟩
 refine ⟨g, ⟨fun i T z hp => ?_, fun i j T z T' z' hi hj hne e => ?_, h.below⟩, ?_⟩
 ·obtain ⟨d, hd⟩ := hd0 i (List.getElem?_eq_some_iff.1 hp).1
  exact (hgd i T z d hp hd).2
 ·have li := (List.getElem?_eq_some_iff.1 hi).1
  have lj := (List.getElem?_eq_some_iff.1 hj).1
  obtain ⟨di, hdi⟩ := hd0 i li
  obtain ⟨dj, hdj⟩ := hd0 j lj
  refine h.apart i j T z T' z' di dj hi hj hne (listedM_at i li) (listedM_at j lj) hdi hdj ?_
  rw [(hgd i T z di hi hdi).1, (hgd j T' z' dj hj hdj).1, e]
 ·refine finT_eq PL 0 _ h.size (fun i p d hp hd _ => ?_) (fun t ht => ?_)
  ·rw [Nat.zero_add] at hd ⊢
   have hi := (List.getElem?_eq_some_iff.1 hp).1
   cases p with
   | is v => exact h.is i v d hp (listedM_at i hi) hd
   | fresh T z => exact (hgd i T z d hp hd).1
  ·refine h.far t fun i hi hit => ?_
   have := ht i hi
   rw [Nat.zero_add] at this
   exact absurd hit this
theorem listedM_K (ops : Array Oper) (PL : List Pl) : listedM ops PL = listedK ops.size PL.length := rfl
theorem wp_schedT {P : Program} {ops : Array Oper} {a0 : Act} {w0 : World} {Q : Exit → Act → World → Prop} {id : Nat} (PL : List Pl) (S : World → Prop) (draw : Bool) (hm : P.follows .mixedOrders = true) (hc : chk ops PL a0.tmps.size = true) (hq : (!draw || (cloB ops PL && seqd ops PL.length)) = true)
  (hS : ∀ V, Below w0.heap.size w0 V → S V) (hg : Goods P ops PL a0.tmps S 0 PL)
  (hfin : ∀ (g : Nat → Nat) (V : World), SFin PL g w0 V → wpList P ops Q (ops.toList.drop PL.length) ⟨finT ops g 0 PL a0.tmps, a0.defers⟩ V) :
  (Code.region id ops draw).wp P Q a0 w0 := by
 have HC := chk_spec hc
 have fin : ∀ a V, SInv ops PL a0 w0 (listedM ops PL) a V → wpList P ops Q (ops.toList.drop PL.length) a V := fun a V h => by
  obtain ⟨g, h1, h2⟩ := sinv_end HC h
  have := hfin g V h1
  rw [h2, ← h.defers] at this
  exact this
 cases draw with
 | true =>
  have hq2 : cloB ops PL = true ∧ seqd ops PL.length = true := by simpa using hq
  refine wp_region_any hm (wpAny_sched HC hq2.1 hg hS (fun a V h => ?_) ops.size _ a0 w0.drew (sinv_start HC (Below.refl _ _).drew) (by simp [List.count_replicate]))
  have := wpAny_tail (P := P) (Q := Q) hq2.2 (ops.size - PL.length) 0 a V (by omega) HC.le (fin a V h)
  rw [Nat.add_zero, ← listedM_K] at this
  exact this
 | false =>
  refine wp_region ?_
  have key : ∀ (f k : Nat) (a : Act) (w : World), k + f = PL.length → SInv ops PL a0 w0 (listedK ops.size k) a w → wpOps P ops Q (List.range' k (ops.size - k)) a w := by
   intro f
   induction f with
   | zero =>
    intro k a w hk h
    rw [Nat.add_zero] at hk
    subst hk
    have := fin a w h
    have e : wpOps P ops Q (List.range' PL.length (ops.size - PL.length)) = wpList P ops Q (ops.toList.drop PL.length) := by
     have e1 := wpOps_eq_wpList (P := P) (Q := Q) (ops := ops) (ops.toList.drop PL.length) PL.length (fun j => by simp)
     have e2 : (ops.toList.drop PL.length).length = ops.size - PL.length := by simp
     rw [e2] at e1; exact e1
    rw [e]; exact this
   | succ f ih =>
    intro k a w hk h
    have hkm : k < PL.length := by omega
    have hks : k < ops.size := Nat.lt_of_lt_of_le hkm HC.le
    rw [show ops.size - k = (ops.size - (k + 1)) + 1 by omega, List.range'_succ, wpOps_cons]
    refine sched_op HC hg hS h hkm ?_ (fun j hj => ?_) (fun a' V h' => ?_)
    ·simp [listedK, Array.getD_eq_getD_getElem?, List.getElem?_append_right, List.getElem?_replicate, show 0 < ops.size - k by omega]
    ·have := HC.small k hkm j hj
     simp [listedK, Array.getD_eq_getD_getElem?, List.getElem?_append_left, this]
    ·rw [listedK_set hks] at h'
     exact ih (k + 1) a' V (by omega) h'
  rw [List.range_eq_range']
  have h0 : listedK ops.size 0 = Array.replicate ops.size false := by simp [listedK]
  exact key PL.length 0 a0 w0 (by omega) (by rw [h0]; exact sinv_start HC (Below.refl _ _))
/-- The temporaries behind the first part, by their places. -/
def finL (g : Nat → Nat) : Nat → List (Tmp × Pl) → Array Value → Array Value
 | _, [], A => A
 | k, (d, p) :: r, A => finL g (k + 1) r (A.setIfInBounds d (p.val (g k)))
def chkD (ops : Array Oper) : Nat → List (Tmp × Pl) → Bool
 | _, [] => true
 | k, (d, _) :: r => dstOf ops k == some d && chkD ops (k + 1) r
def plOf (D : List (Tmp × Pl)) : List Pl := D.map (·.2)
theorem finT_finL {ops : Array Oper} {g : Nat → Nat} : ∀ (D : List (Tmp × Pl)) (k : Nat) (A : Array Value), chkD ops k D = true → finT ops g k (plOf D) A = finL g k D A
 | [], _, _, _ => rfl
 | (d, p) :: r, k, A, h => by
  unfold chkD at h
  rw [Bool.and_eq_true] at h
  obtain ⟨h1, h2⟩ := h
  have h3 : dstOf ops k = some d := by simpa using h1
  show finT ops g k (p :: plOf r) A = _
  unfold finT finL
  rw [h3]
  exact finT_finL r (k + 1) _ h2
theorem wp_sched {P : Program} {ops : Array Oper} {a0 : Act} {w0 : World} {Q : Exit → Act → World → Prop} {id : Nat} {draw : Bool} (D : List (Tmp × Pl)) (S : World → Prop) (hm : P.follows .mixedOrders = true) (hc : chk ops (plOf D) a0.tmps.size = true) (hd : chkD ops 0 D = true) (hq : (!draw || (cloB ops (plOf D) && seqd ops (plOf D).length)) = true)
  (hS : ∀ V, Below w0.heap.size w0 V → S V) (hg : Goods P ops (plOf D) a0.tmps S 0 (plOf D)) (tl : List Oper) (ht : ops.toList.drop (plOf D).length = tl)
  (hfin : ∀ (g : Nat → Nat) (V : World), SFin (plOf D) g w0 V → wpList P ops Q tl ⟨finL g 0 D a0.tmps, a0.defers⟩ V) :
  (Code.region id ops draw).wp P Q a0 w0 :=
 wp_schedT (plOf D) S draw hm hc hq hS hg fun g V h => by rw [ht, finT_finL D 0 _ hd]; exact hfin g V h
theorem goods_nil {P : Program} {ops : Array Oper} {PL : List Pl} {A : Array Value} {S : World → Prop} {k : Nat} : Goods P ops PL A S k [] := trivial
section
variable {P : Program} {ops : Array Oper} {PL : List Pl} {A : Array Value} {S : World → Prop} {k : Nat} {v : Value} {r : List Pl}
theorem goods_is (h : ∀ (a : Act) (V : World), (∀ t, looks ops PL k t = true → a.tmps.getD t undef = valOf ops PL A t) → S V → ∀ (K : Act → World → Prop) (Q : Exit → Act → World → Prop),
      (∀ V', Below V.heap.size V V' → K (a.put (opA ops k).dst v) V') → (opA ops k).wp P a V K Q) (hr : Goods P ops PL A S (k + 1) r) (hgd : (opA ops k).guard = none := by kernel_rfl) : Goods P ops PL A S k (.is v :: r) :=
 ⟨fun a V hl hS => .inl ⟨by unfold Region.wanted; rw [hgd], h a V hl hS⟩, hr⟩
/-- Whether a guard lets this value pass. -/
def passes (want : Bool) : Value → Bool
 | .bool b => b == want
 | _ => false
theorem wanted_of {a : Act} {o : Oper} {j d : Nat} {want : Bool} {u : Value} (hg : o.guard = some (j, want)) (hd : dstOf ops j = some d) (h : a.tmps.getD d undef = u) : Region.wanted o (yielded ops a.tmps) = passes want u := by
 unfold Region.wanted
 rw [hg]
 have e : yielded ops a.tmps j = match (some d).bind (a.tmps[·]?) with | some (.bool b) => some b | _ => none := by
  unfold yielded
  unfold dstOf at hd
  rw [hd]
  rfl
 simp only [e, Option.bind_some]
 rw [Array.getD_eq_getD_getElem?] at h
 cases hx : a.tmps[d]? with
 | none => rw [hx] at h; subst h; simp [passes, undef]
 | some x =>
  rw [hx] at h; simp only [Option.getD_some] at h; subst h
  cases x <;> simp [passes]
theorem goods_on {j d : Nat} {want : Bool} {u : Value} (hg : (opA ops k).guard = some (j, want)) (hd : dstOf ops j = some d) (h1 : looks ops PL k d = true) (h2 : valOf ops PL A d = u) (hp : passes want u = true)
  (h : ∀ (a : Act) (V : World), (∀ t, looks ops PL k t = true → a.tmps.getD t undef = valOf ops PL A t) → S V → ∀ (K : Act → World → Prop) (Q : Exit → Act → World → Prop),
   (∀ V', Below V.heap.size V V' → K (a.put (opA ops k).dst v) V') → (opA ops k).wp P a V K Q) (hr : Goods P ops PL A S (k + 1) r) : Goods P ops PL A S k (.is v :: r) :=
 ⟨fun a V hl hS => .inl ⟨by rw [wanted_of hg hd ((hl d h1).trans h2)]; exact hp, h a V hl hS⟩, hr⟩
theorem goods_off {j d : Nat} {want : Bool} {u : Value} (hg : (opA ops k).guard = some (j, want)) (hd : dstOf ops j = some d) (h1 : looks ops PL k d = true) (h2 : valOf ops PL A d = u) (hp : passes want u = false)
  (hr : Goods P ops PL A S (k + 1) r) : Goods P ops PL A S k (.is undef :: r) :=
 ⟨fun a V hl hS => .inr ⟨by rw [wanted_of hg hd ((hl d h1).trans h2)]; exact hp, rfl⟩, hr⟩
theorem goods_fresh {T : TypeId} {z : Array Value}
  (h1 : (ops[k]?).map (fun o => (o.op, o.guard)) = some (.alloc T, none)) (h2 : ∀ W, (zeroValue T).run P W = .ok (.agg z) W) (hr : Goods P ops PL A S (k + 1) r) : Goods P ops PL A S k (.fresh T z :: r) := ⟨⟨h1, h2⟩, hr⟩
end
/-! The contracts of single operations. -/
section
variable {P : Program} {o : Oper} {a : Act} {V : World} {K : Act → World → Prop} {Q : Exit → Act → World → Prop}
theorem op_quiet {v : Value} (h : (execOp a.eval o).run P V = .ok (.value v) V) (hK : ∀ V', Below V.heap.size V V' → K (a.put o.dst v) V') : o.wp P a V K Q := by
 unfold Oper.wp
 rw [h, Oper.upon_value]
 exact hK V (Below.refl _ _)
theorem op_call {v : Value} {f : FuncId} {c : Call} (args : Array Value) (ho : o.op = .call c) (hc : c.callee = .value (.func f)) (ha : c.args.map a.eval = args)
  (hk : Calls P f args V fun e w' => e = .returned v ∧ Below V.heap.size V w') (hrun : (callFunc f args).run P V = .ok (.enter f args) V) (hK : ∀ V', Below V.heap.size V V' → K (a.put o.dst v) V') : o.wp P a V K Q := by
 have h : (execOp a.eval o).run P V = .ok (.enter f args) V := by
  unfold execOp
  simp only [ho, resolve, hc, Act.eval, Deferred.ofValue, ha, Sem.run_bind, Sem.run_pure, Result.andThen_ok, invoke]
  simp [go_sem, hrun]
 unfold Oper.wp
 rw [h, Oper.upon_enter]
 refine hk.mono ?_
 rintro e w' ⟨rfl, hb⟩
 exact hK w' hb
end
def callOf (o : Oper) : Call := match o.op with | .call c => c | _ => { callee := .builtin .len, args := #[], argTypes := #[] }
section
variable {P : Program} {o : Oper} {a : Act} {V : World} {K : Act → World → Prop} {Q : Exit → Act → World → Prop} {ev : Operand → Value}
theorem look_at {ops : Array Oper} {PL : List Pl} {A : Array Value} {k : Nat} (h : ∀ t, looks ops PL k t = true → a.tmps.getD t undef = valOf ops PL A t) (t : Tmp) {v : Value} (h1 : looks ops PL k t = true := by kernel_rfl) (h2 : valOf ops PL A t = v := by kernel_rfl) : a.eval (.tmp t) = v := (h t h1).trans h2
theorem map0 : (#[] : Array Operand).map ev = #[] := by simp
theorem map1 {x : Operand} {v : Value} (h : ev x = v) : (#[x] : Array Operand).map ev = #[v] := by simp [h]
theorem map2 {x y : Operand} {v u : Value} (h : ev x = v) (h2 : ev y = u) : (#[x, y] : Array Operand).map ev = #[v, u] := by simp [h, h2]
theorem op_callK {v : Value} {f : FuncId} (xs : Array Operand) (args : Array Value) (ha : xs.map a.eval = args) (hk : Calls P f args V fun e w' => e = .returned v ∧ Below V.heap.size V w') (hK : ∀ V', Below V.heap.size V V' → K (a.put o.dst v) V') (ho : o.op = .call (callOf o) := by kernel_rfl) (hc : (callOf o).callee = .value (.func f) := by kernel_rfl) (hx : (callOf o).args = xs := by kernel_rfl) (hrun : (callFunc f args).run P V = .ok (.enter f args) V := by kernel_rfl) : o.wp P a V K Q :=
 op_call args ho hc (by rw [hx]; exact ha) hk hrun hK
theorem bld1 {a : Nat} {x : Operand} {v : Value} (h : ev x = v) : ((#[(a, x)] : Array (Nat × Operand)).map fun (i, x) => (i, ev x)).toList = [(a, v)] := by simp [h]
theorem bld2 {a b : Nat} {x y : Operand} {v u : Value} (h : ev x = v) (h2 : ev y = u) : ((#[(a, x), (b, y)] : Array (Nat × Operand)).map fun (i, x) => (i, ev x)).toList = [(a, v), (b, u)] := by simp [h, h2]
theorem bld3 {a b c : Nat} {x y z : Operand} {v u t : Value} (h : ev x = v) (h2 : ev y = u) (h3 : ev z = t) : ((#[(a, x), (b, y), (c, z)] : Array (Nat × Operand)).map fun (i, x) => (i, ev x)).toList = [(a, v), (b, u), (c, t)] := by simp [h, h2, h3]
theorem quiet_move {v : Value} (x : Operand) (hx : ev x = v) (ho : o.op = .move x ∨ o.op = .assign x) : (execOp ev o).run P V = .ok (.value v) V := by
 unfold execOp
 rcases ho with ho | ho <;> simp only [ho, hx, Sem.run_pure]
theorem tail_nil {ops : Array Oper} (h : Q .normal a V) : wpList P ops Q [] a V := h
theorem quiet_pickT {v : Value} (c x y : Operand) (hc : ev c = .bool true) (hx : ev x = v) (ho : o.op = .pick c x y) : (execOp ev o).run P V = .ok (.value v) V := by
 unfold execOp
 simp only [ho, hc, asBool, Sem.run_bind, Sem.run_pure, Result.andThen_ok, hx, if_true]
theorem quiet_pickF {v : Value} (c x y : Operand) (hc : ev c = .bool false) (hy : ev y = v) (ho : o.op = .pick c x y) : (execOp ev o).run P V = .ok (.value v) V := by
 unfold execOp
 simp only [ho, hc, asBool, Sem.run_bind, Sem.run_pure, Result.andThen_ok, hy]
 rfl
theorem quiet_not {b : Bool} (t : TypeId) (x : Operand) (hx : ev x = .bool b) (ho : o.op = .unOp .not t x) : (execOp ev o).run P V = .ok (.value (.bool (!b))) V := by
 unfold execOp
 simp only [ho, hx]
 simp [go_sem]
theorem quiet_extract {t : Array Value} {v : Value} (x : Operand) (k : Nat) (hx : ev x = .tuple t) (hv : t[k]? = some v) (ho : o.op = .extract x k) : (execOp ev o).run P V = .ok (.value v) V := by
 unfold execOp
 simp only [ho, hx, Instr.extract, Sem.run_bind, hv, Sem.run_pure, Result.andThen_ok]
end
end Go.Proofs.YtcfogpeinjehbaaGreatDoor
end
