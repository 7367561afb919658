/-
  The contract of the laws' two: the elements of 32 bytes. Condition: the prime's limbs stand in their variable.
-/
import Derived.Test.YtphlehinjooncaaDoorFldRoot
import Derived.Test.YtphlehinjooncaaDoorFldSame
set_option linter.unusedVariables false
set_option linter.unusedSimpArgs false
namespace Go.Proofs.YtphlehinjooncaaDoor
open Go Go.Proofs Go.RowKit F5

theorem results_two_rows {fn : Func} {p1 p2 u : Tmp} {t1 t2 : TypeId} {P : Program} (h : fn.results = #[.cell p1 t1, .cell p2 t2, .tmp u]) (tmps : Array Value) (w : World) (g1 g2 : Nat) (c1 c2 : Array Value) (v : Value) (T1 T2 : TypeId) (l : Array Field) (e n : Nat)
    (hp1 : tmps.getD p1 undef = .pointer (some ⟨g1, 0, none⟩)) (hp2 : tmps.getD p2 undef = .pointer (some ⟨g2, 0, none⟩)) (hv : tmps.getD u undef = v) (hg1 : Blk w g1 T1 c1) (hg2 : Blk w g2 T2 c2)
    (hu1 : P.underlying t1 = some (.struct l)) (hu2 : P.underlying t2 = some (.array n e)) (hi1 : (P.info? t1).map (·.size) = some c1.size) (hi2 : (P.info? t2).map (·.size) = some c2.size) :
    (results fn tmps).run P w = .ok (.tuple #[.agg c1, .agg c2, v]) w := by
  have l1 := run_loadVar_row (P := P) w g1 T1 t1 c1 (0, 0) (.struct l) hg1 hu1 rfl hi1
  have l2 := run_loadVar_row (P := P) w g2 T2 t2 c2 (0, 0) (.array n e) hg2 hu2 rfl hi2
  have e : (results fn tmps).run P w = ((asAddr (tmps.getD p1 undef)).run P w).andThen fun a w₁ => ((loadVar t1 a).run P w₁).andThen fun v1 w₂ => ((asAddr (tmps.getD p2 undef)).run P w₂).andThen fun a2 w₃ => ((loadVar t2 a2).run P w₃).andThen fun v2 w₄ => .ok (.tuple #[v1, v2, tmps.getD u undef]) w₄ := by
    simp only [results, h]
    simp [Sem.run_bind, Result.andThen]
  rw [e, hp1, hp2, hv]
  simp [asAddr, Result.andThen, l1, l2]

theorem limF_ok (n : Nat) (z : Array Value) (hz : z = limF 0) : (Tryd.prog.info? 35).map (·.size) = some (limF n).size ∧ (limF n).all (·.oneCell') = true ∧ z.size = (limF n).size := ⟨limF_info _, limF_one _, by rw [hz, limF_size, limF_size]⟩
def uOf (v : Nat) : Nat := if v < P then v else 0
theorem uOf_lt (v : Nat) : uOf v < P := by unfold uOf; split; assumption; exact P_pos

set_option maxHeartbeats 8000000 in
set_option maxRecDepth 100000 in
theorem two_any (v : Nat) (hv : v < 2 ^ 256) (w : World) (hP : PrimeAt w) :
    Calls Tryd.prog 16 #[.agg (bytesA (fbytes v))] w fun e w' => e = .returned (.tuple #[elemV (uOf v), refV (v % P), .bool (decide (v < P))]) ∧ Below w.heap.size w w' := by
  unfold elemV refV
  have HP := Lib.hid hP
  have HV := Lib.hid hv
  obtain ⟨z, hz⟩ : ∃ z, Hid (z = limF 0) := ⟨_, Lib.hid rfl⟩
  have hz0 : ∀ W, (zeroValue 35).run Tryd.prog W = .ok (.agg z) W := by
    rw [hz.out, ← zero16]; exact (zero_of_info (n := 16) (by kernel_rfl)).1
  have ou := Lib.hid (limA_ok (uOf v))
  have of := Lib.hid (limF_ok (v % P) z hz.out)
  obtain ⟨b, hb⟩ : ∃ b, Hid (b = decide (v < P)) := ⟨_, Lib.hid rfl⟩
  obtain ⟨er, her⟩ : ∃ er : Int, Hid (er = if v < P then 0 else 6) := ⟨_, Lib.hid rfl⟩
  have hcase : Hid ((b = true ∧ er = 0) ∨ (b = false ∧ er = 6)) := by
    rw [hb.out, her.out]
    by_cases h : v < P
    · exact Lib.hid (.inl ⟨by simpa using h, if_pos h⟩)
    · exact Lib.hid (.inr ⟨by simpa using h, if_neg h⟩)
  have CG : Hid (∀ ad c W, Reads W W.heap.size 1 (some ad) 32 (Lib.byteCells (fbytes v)) → PrimeAt W → Calls Tryd.prog 9 #[.slice (some ad) 32 c] W fun e w' => e = .returned (.tuple #[.agg (limA (uOf v)), .int .i64 er]) ∧ Below W.heap.size W w') := Lib.hid fun ad c W hr hp => by
    rw [her.out]; exact get_32 v HV.out ad c W hr hp
  have CR : Hid (∀ ad c W, Reads W W.heap.size 1 (some ad) 32 (Lib.byteCells (fbytes v)) → Calls Tryd.prog 14 #[.slice (some ad) 32 c] W fun e w' => e = .returned (.tuple #[.agg (limF (v % P)), .bool b]) ∧ Below W.heap.size W w') := Lib.hid fun ad c W hr => by
    rw [hb.out]; exact raw_any v HV.out ad c W hr
  have hrd : Hid (∀ W g, Blk W g 41 (bytesA (fbytes v)) → Reads W W.heap.size 1 (some ⟨g, 0, none⟩) 32 (Lib.byteCells (fbytes v))) := Lib.hid fun W g h => by
    have := reads_blk h
    rwa [fbytes_length] at this
  generalize limA (uOf v) = cu at *
  generalize limF (v % P) = cf at *
  rw [← hb.out]
  obtain ⟨a, ha⟩ : ∃ a, Hid (a = bytesA (fbytes v)) := ⟨_, Lib.hid rfl⟩
  rw [← ha.out] at hrd ⊢
  have hW0 : Blk (((w.alloc (.cells a 41)).alloc (.cells #[.int .u64 0, .int .u64 0, .int .u64 0, .int .u64 0] 28)).alloc (.cells z 35)) w.heap.size 41 a ∧ Blk (((w.alloc (.cells a 41)).alloc (.cells #[.int .u64 0, .int .u64 0, .int .u64 0, .int .u64 0] 28)).alloc (.cells z 35)) (w.heap.size + 1) 28 #[.int .u64 0, .int .u64 0, .int .u64 0, .int .u64 0] ∧ Blk (((w.alloc (.cells a 41)).alloc (.cells #[.int .u64 0, .int .u64 0, .int .u64 0, .int .u64 0] 28)).alloc (.cells z 35)) (w.heap.size + 2) 35 z ∧
      Below w.heap.size w (((w.alloc (.cells a 41)).alloc (.cells #[.int .u64 0, .int .u64 0, .int .u64 0, .int .u64 0] 28)).alloc (.cells z 35)) := by
    have h1 := ((Blk.new w 41 a).alloc (.cells #[.int .u64 0, .int .u64 0, .int .u64 0, .int .u64 0] 28)).alloc (.cells z 35)
    have h2 := (Blk.new (w.alloc (.cells a 41)) 28 #[.int .u64 0, .int .u64 0, .int .u64 0, .int .u64 0]).alloc (.cells z 35)
    have h3 := Blk.new ((w.alloc (.cells a 41)).alloc (.cells #[.int .u64 0, .int .u64 0, .int .u64 0, .int .u64 0] 28)) 35 z
    rw [show (w.alloc (.cells a 41)).heap.size = w.heap.size + 1 by simp] at h2
    rw [show ((w.alloc (.cells a 41)).alloc (.cells #[.int .u64 0, .int .u64 0, .int .u64 0, .int .u64 0] 28)).heap.size = w.heap.size + 2 by simp] at h3
    exact ⟨h1, h2, h3, (((Below.refl _ _).alloc (Nat.le_refl _) _).alloc (by simp) _).alloc (by simp; omega) _⟩
  clear hP hv
  go_enter Tryd.func16, Tryd.ntmps16
  go_upto_region 1 with fail
  generalize ((w.alloc (.cells a 41)).alloc (.cells #[.int .u64 0, .int .u64 0, .int .u64 0, .int .u64 0] 28)).alloc (.cells z 35) = W at *
  obtain ⟨x0, x1, x2, hbl⟩ := hW0
  have X0 := Lib.hid x0
  have X1 := Lib.hid x1
  have X2 := Lib.hid x2
  have HB := Lib.hid hbl
  clear x0 x1 x2 hbl
  have hsl := slice32 w.heap.size
  go_upto_region 2 with fail
  refine (CG.out _ _ _ (hrd.out _ _ X0.out) (HP.out.old HB.out)).mono ?_
  rintro e w1 ⟨rfl, hb1⟩
  have Y0 := Lib.hid (X0.out.old hb1)
  have Y1 := Lib.hid (X1.out.old hb1)
  have Y2 := Lib.hid (X2.out.old hb1)
  have HB1 := Lib.hid (HB.out.trans (hb1.mono HB.out.size))
  clear hb1
  go_upto_region 2 with (first | (refine wpList_store_row rfl 28 (.tmp 5) (.tmp 12) rfl w1.heap.size cu rfl rfl 28 _ (heap_alloc_new w1 _) ou.out.1 ou.out.2.2 ou.out.2.1 ?_; rw [setRow_alloc1]))
  have X0' := Lib.hid (Y0.out.alloc (.cells cu 28))
  have X1' := Lib.hid (Y1.out.alloc (.cells cu 28))
  have X2' := Lib.hid (Y2.out.alloc (.cells cu 28))
  have X5 := Lib.hid (Blk.new w1 28 cu)
  have HB2 := Lib.hid (HB1.out.alloc HB1.out.size (.cells cu 28))
  have L5 := Lib.hid (show w.heap.size + 2 < w1.heap.size from Y2.out.lt)
  generalize w1.alloc (.cells cu 28) = W1 at *
  generalize w1.heap.size = g5 at *
  go_upto_region 3 with fail
  refine (CR.out _ _ _ (hrd.out _ _ X0'.out)).mono ?_
  rintro e w2 ⟨rfl, hb1⟩
  have Y1' := Lib.hid (X1'.out.old hb1)
  have Y2' := Lib.hid (X2'.out.old hb1)
  have Y5 := Lib.hid (X5.out.old hb1)
  have HB3 := Lib.hid (HB2.out.trans (hb1.mono HB2.out.size))
  clear hb1
  go_upto_region 3 with (first | (refine wpList_store_row rfl 35 (.tmp 7) (.tmp 17) rfl w2.heap.size cf rfl rfl 35 z (heap_alloc_new w2 _) of.out.1 of.out.2.2 of.out.2.1 ?_; rw [setRow_alloc1]))
  have V1 := Lib.hid (Y1'.out.alloc (.cells cf 35))
  have V2 := Lib.hid (Y2'.out.alloc (.cells cf 35))
  have V5 := Lib.hid (Y5.out.alloc (.cells cf 35))
  have V7 := Lib.hid (Blk.new w2 35 cf)
  have HB4 := Lib.hid (HB3.out.alloc HB3.out.size (.cells cf 35))
  have L7 := Lib.hid (show g5 < w2.heap.size from Y5.out.lt)
  generalize w2.alloc (.cells cf 35) = W2 at *
  generalize w2.heap.size = g7 at *
  clear hz0
  (try simp only [Act.put, List.setIfInBounds_toArray, List.set_cons_zero, List.set_cons_succ])
  rcases hcase.out with ⟨hbt, hert⟩ | ⟨hbt, hert⟩
  · skip
    have HBT := Lib.hid hbt
    clear hcase
    subst hbt hert
    refine wp_region_held_drew (S := fun V => Blk V g5 28 cu ∧ Blk V g7 35 cf) (by kernel_rfl) ⟨V5.out.drew, V7.out.drew⟩ (fun hHeld => ?_)
    have HB0 := Lib.hid ((Below.refl W2.heap.size W2).drew)
    generalize W2.drew = V0 at *
    refine' wpAnyH_take (i := 0) (oi := _) (v := .agg cu) ?hit1 ?hst1 ?hft1 ?hrt1 ?hQt1 ?hyt1 ?hSt1 ?_
    case hit1 => (simp only [List.getElem?_toArray, List.getElem?_cons_succ, List.getElem?_cons_zero]; rfl)
    case hst1 => kernel_rfl
    case hft1 => kernel_rfl
    case hrt1 => kernel_rfl
    case hQt1 => exact fun _ _ _ h => h
    case hSt1 => assumption
    case hyt1 =>
      refine Or.inl ⟨by rfl, ?_⟩
      intro W hS
      exact quiet_load_row 28 (.tmp 5) _ rfl 28 cu _ hS.1 Tryd.underlying28 rfl ou.out.1 rfl
    (try simp only [Act.put, List.setIfInBounds_toArray, List.set_cons_zero, List.set_cons_succ])
    refine' wpAnyH_take (i := 1) (oi := _) (v := .agg cf) ?hit2 ?hst2 ?hft2 ?hrt2 ?hQt2 ?hyt2 ?hSt2 ?_
    case hit2 => (simp only [List.getElem?_toArray, List.getElem?_cons_succ, List.getElem?_cons_zero]; rfl)
    case hst2 => kernel_rfl
    case hft2 => kernel_rfl
    case hrt2 => kernel_rfl
    case hQt2 => exact fun _ _ _ h => h
    case hSt2 => assumption
    case hyt2 =>
      refine Or.inl ⟨by rfl, ?_⟩
      intro W hS
      exact quiet_load_row 35 (.tmp 7) _ rfl 35 cf _ hS.2 Tryd.underlying35 rfl of.out.1 rfl
    (try simp only [Act.put, List.setIfInBounds_toArray, List.set_cons_zero, List.set_cons_succ])
    refine' wpAnyH_take (i := 2) (oi := _) (v := _) ?hit3 ?hst3 ?hft3 ?hrt3 ?hQt3 ?hyt3 ?hSt3 ?_
    case hit3 => (simp only [List.getElem?_toArray, List.getElem?_cons_succ, List.getElem?_cons_zero]; rfl)
    case hst3 => kernel_rfl
    case hft3 => kernel_rfl
    case hrt3 => kernel_rfl
    case hQt3 => exact fun _ _ _ h => h
    case hSt3 => assumption
    case hyt3 =>
      refine Or.inl ⟨by rfl, ?_⟩
      intro w hSw
      (try dsimp only at hSw)
      go_simp
      all_goals (with_reducible rfl)
    (try simp only [Act.put, List.setIfInBounds_toArray, List.set_cons_zero, List.set_cons_succ])
    refine' wpAnyH_take (i := 3) (oi := _) (v := _) ?hit4 ?hst4 ?hft4 ?hrt4 ?hQt4 ?hyt4 ?hSt4 ?_
    case hit4 => (simp only [List.getElem?_toArray, List.getElem?_cons_succ, List.getElem?_cons_zero]; rfl)
    case hst4 => kernel_rfl
    case hft4 => kernel_rfl
    case hrt4 => kernel_rfl
    case hQt4 => exact fun _ _ _ h => h
    case hSt4 => assumption
    case hyt4 =>
      refine Or.inl ⟨by rfl, ?_⟩
      intro w hSw
      (try dsimp only at hSw)
      go_simp
      all_goals (with_reducible rfl)
    (try simp only [Act.put, List.setIfInBounds_toArray, List.set_cons_zero, List.set_cons_succ])
    refine' wpAnyH_take (i := 4) (oi := _) (v := _) ?hit5 ?hst5 ?hft5 ?hrt5 ?hQt5 ?hyt5 ?hSt5 ?_
    case hit5 => (simp only [List.getElem?_toArray, List.getElem?_cons_succ, List.getElem?_cons_zero]; rfl)
    case hst5 => kernel_rfl
    case hft5 => kernel_rfl
    case hrt5 => kernel_rfl
    case hQt5 => exact fun _ _ _ h => h
    case hSt5 => assumption
    case hyt5 =>
      refine Or.inl ⟨by rfl, ?_⟩
      intro w hSw
      (try dsimp only at hSw)
      go_simp
      all_goals (with_reducible rfl)
    (try simp only [Act.put, List.setIfInBounds_toArray, List.set_cons_zero, List.set_cons_succ])
    refine' wpAnyH_take (i := 5) (oi := _) (v := _) ?hit6 ?hst6 ?hft6 ?hrt6 ?hQt6 ?hyt6 ?hSt6 ?_
    case hit6 => (simp only [List.getElem?_toArray, List.getElem?_cons_succ, List.getElem?_cons_zero]; rfl)
    case hst6 => kernel_rfl
    case hft6 => kernel_rfl
    case hrt6 => kernel_rfl
    case hQt6 => exact fun _ _ _ h => h
    case hSt6 => assumption
    case hyt6 =>
      refine Or.inl ⟨by rfl, ?_⟩
      intro w hSw
      (try dsimp only at hSw)
      go_simp
      all_goals (with_reducible rfl)
    (try simp only [Act.put, List.setIfInBounds_toArray, List.set_cons_zero, List.set_cons_succ])
    refine' wpAnyH_take (i := 6) (oi := _) (v := _) ?hit7 ?hst7 ?hft7 ?hrt7 ?hQt7 ?hyt7 ?hSt7 ?_
    case hit7 => (simp only [List.getElem?_toArray, List.getElem?_cons_succ, List.getElem?_cons_zero]; rfl)
    case hst7 => kernel_rfl
    case hft7 => kernel_rfl
    case hrt7 => kernel_rfl
    case hQt7 => exact fun _ _ _ h => h
    case hSt7 => assumption
    case hyt7 =>
      refine Or.inl ⟨by rfl, ?_⟩
      intro w hSw
      (try dsimp only at hSw)
      go_simp
      all_goals (with_reducible rfl)
    (try simp only [Act.put, List.setIfInBounds_toArray, List.set_cons_zero, List.set_cons_succ])
    refine wpAnyH_ready (rs := [7]) (by kernel_rfl) (by simp) ?_
    refine' (AllReadyH.cons (o := _) ?hir8_7 (fun K hK => ?br8_7) AllReadyH.nil)
    case hir8_7 => (simp only [List.getElem?_toArray, List.getElem?_cons_succ, List.getElem?_cons_zero]; rfl)
    case br8_7 =>
      refine step_of_wp rfl ?_
      refine wp_store_row 28 (.tmp 2) (.tmp 19) rfl (w.heap.size + 1) cu rfl rfl 28 _ (V1.out.old HB0.out) ou.out.1 ou.out.2.2 ou.out.2.1 ?_
      refine hK.out _ _ ?_ (fun hHeld => ?_)
      exact ⟨(V5.out.old HB0.out).rowFar (by have := L5.out; omega) _, (V7.out.old HB0.out).rowFar (by have := L5.out; have := L7.out; omega) _⟩
      clear hK K
      (try simp only [Act.put, List.setIfInBounds_toArray, List.set_cons_zero, List.set_cons_succ])
      refine wpAnyH_ready (rs := [8]) (by kernel_rfl) (by simp) ?_
      refine' (AllReadyH.cons (o := _) ?hir10_8 (fun K hK => ?br10_8) AllReadyH.nil)
      case hir10_8 => (simp only [List.getElem?_toArray, List.getElem?_cons_succ, List.getElem?_cons_zero]; rfl)
      case br10_8 =>
        refine step_of_wp rfl ?_
        refine wp_store_row 35 (.tmp 3) (.tmp 20) rfl (w.heap.size + 2) cf rfl rfl 35 z ((V2.out.old HB0.out).rowFar (by omega) _) of.out.1 of.out.2.2 of.out.2.1 ?_
        refine hK.out _ _ ?_ (fun hHeld => ?_)
        exact ⟨((V5.out.old HB0.out).rowFar (by have := L5.out; omega) _).rowFar (by have := L5.out; omega) _, ((V7.out.old HB0.out).rowFar (by have := L5.out; have := L7.out; omega) _).rowFar (by have := L5.out; have := L7.out; omega) _⟩
        clear hK K
        (try simp only [Act.put, List.setIfInBounds_toArray, List.set_cons_zero, List.set_cons_succ])
        refine' wpAnyH_take (i := 9) (oi := _) (v := _) ?hit12 ?hst12 ?hft12 ?hrt12 ?hQt12 ?hyt12 ?hSt12 ?_
        case hit12 => (simp only [List.getElem?_toArray, List.getElem?_cons_succ, List.getElem?_cons_zero]; rfl)
        case hst12 => kernel_rfl
        case hft12 => kernel_rfl
        case hrt12 => kernel_rfl
        case hQt12 => exact fun _ _ _ h => h
        case hSt12 => assumption
        case hyt12 =>
          refine Or.inl ⟨by rfl, ?_⟩
          intro w hSw
          (try dsimp only at hSw)
          go_simp
          all_goals (with_reducible rfl)
        (try simp only [Act.put, List.setIfInBounds_toArray, List.set_cons_zero, List.set_cons_succ])
        refine wpAnyH_done (by kernel_rfl) ?_ _
        have hfe := Lib.hid ((((V1.out.old HB0.out).row cu).rowFar (g' := w.heap.size + 2) (by omega) cf))
        have hff := Lib.hid (((V2.out.old HB0.out).rowFar (g' := w.heap.size + 1) (by omega) cu).row cf)
        have hbe := Lib.hid (below_row (below_row (HB4.out.trans (HB0.out.mono HB4.out.size)) (show w.heap.size ≤ w.heap.size + 1 by omega) cu) (show w.heap.size ≤ w.heap.size + 2 by omega) cf)
        generalize World.setRow _ (w.heap.size + 2) cf = VF at *
        clear hHeld
        go_wp2_with fail
        refine bodyPost_ret (v := .tuple #[.agg cu, .agg cf, .bool true]) ?_ rfl ⟨rfl, hbe.out⟩
        exact results_two_rows Tryd.results16 _ _ _ _ _ _ _ _ _ _ _ _ rfl rfl rfl hfe.out hff.out Tryd.underlying28 Tryd.underlying35 ou.out.1 of.out.1
  · skip
    have HBT := Lib.hid hbt
    clear hcase
    subst hbt hert
    refine wp_region_held_drew (S := fun V => Blk V g5 28 cu ∧ Blk V g7 35 cf) (by kernel_rfl) ⟨V5.out.drew, V7.out.drew⟩ (fun hHeld => ?_)
    have HB0 := Lib.hid ((Below.refl W2.heap.size W2).drew)
    generalize W2.drew = V0 at *
    refine' wpAnyH_take (i := 0) (oi := _) (v := .agg cu) ?hit13 ?hst13 ?hft13 ?hrt13 ?hQt13 ?hyt13 ?hSt13 ?_
    case hit13 => (simp only [List.getElem?_toArray, List.getElem?_cons_succ, List.getElem?_cons_zero]; rfl)
    case hst13 => kernel_rfl
    case hft13 => kernel_rfl
    case hrt13 => kernel_rfl
    case hQt13 => exact fun _ _ _ h => h
    case hSt13 => assumption
    case hyt13 =>
      refine Or.inl ⟨by rfl, ?_⟩
      intro W hS
      exact quiet_load_row 28 (.tmp 5) _ rfl 28 cu _ hS.1 Tryd.underlying28 rfl ou.out.1 rfl
    (try simp only [Act.put, List.setIfInBounds_toArray, List.set_cons_zero, List.set_cons_succ])
    refine' wpAnyH_take (i := 1) (oi := _) (v := .agg cf) ?hit14 ?hst14 ?hft14 ?hrt14 ?hQt14 ?hyt14 ?hSt14 ?_
    case hit14 => (simp only [List.getElem?_toArray, List.getElem?_cons_succ, List.getElem?_cons_zero]; rfl)
    case hst14 => kernel_rfl
    case hft14 => kernel_rfl
    case hrt14 => kernel_rfl
    case hQt14 => exact fun _ _ _ h => h
    case hSt14 => assumption
    case hyt14 =>
      refine Or.inl ⟨by rfl, ?_⟩
      intro W hS
      exact quiet_load_row 35 (.tmp 7) _ rfl 35 cf _ hS.2 Tryd.underlying35 rfl of.out.1 rfl
    (try simp only [Act.put, List.setIfInBounds_toArray, List.set_cons_zero, List.set_cons_succ])
    refine' wpAnyH_take (i := 2) (oi := _) (v := _) ?hit15 ?hst15 ?hft15 ?hrt15 ?hQt15 ?hyt15 ?hSt15 ?_
    case hit15 => (simp only [List.getElem?_toArray, List.getElem?_cons_succ, List.getElem?_cons_zero]; rfl)
    case hst15 => kernel_rfl
    case hft15 => kernel_rfl
    case hrt15 => kernel_rfl
    case hQt15 => exact fun _ _ _ h => h
    case hSt15 => assumption
    case hyt15 =>
      refine Or.inl ⟨by rfl, ?_⟩
      intro w hSw
      (try dsimp only at hSw)
      go_simp
      all_goals (with_reducible rfl)
    (try simp only [Act.put, List.setIfInBounds_toArray, List.set_cons_zero, List.set_cons_succ])
    refine' wpAnyH_take (i := 3) (oi := _) (v := _) ?hit16 ?hst16 ?hft16 ?hrt16 ?hQt16 ?hyt16 ?hSt16 ?_
    case hit16 => (simp only [List.getElem?_toArray, List.getElem?_cons_succ, List.getElem?_cons_zero]; rfl)
    case hst16 => kernel_rfl
    case hft16 => kernel_rfl
    case hrt16 => kernel_rfl
    case hQt16 => exact fun _ _ _ h => h
    case hSt16 => assumption
    case hyt16 =>
      refine Or.inl ⟨by rfl, ?_⟩
      intro w hSw
      (try dsimp only at hSw)
      go_simp
      all_goals (with_reducible rfl)
    (try simp only [Act.put, List.setIfInBounds_toArray, List.set_cons_zero, List.set_cons_succ])
    refine' wpAnyH_take (i := 4) (oi := _) (v := undef) ?hit17 ?hst17 ?hft17 ?hrt17 ?hQt17 ?hyt17 ?hSt17 ?_
    case hit17 => (simp only [List.getElem?_toArray, List.getElem?_cons_succ, List.getElem?_cons_zero]; rfl)
    case hst17 => kernel_rfl
    case hft17 => kernel_rfl
    case hrt17 => kernel_rfl
    case hQt17 => exact fun _ _ _ h => h
    case hSt17 => assumption
    case hyt17 =>
      exact Or.inr ⟨by rfl, rfl⟩
    (try simp only [Act.put, List.setIfInBounds_toArray, List.set_cons_zero, List.set_cons_succ])
    refine' wpAnyH_take (i := 5) (oi := _) (v := undef) ?hit18 ?hst18 ?hft18 ?hrt18 ?hQt18 ?hyt18 ?hSt18 ?_
    case hit18 => (simp only [List.getElem?_toArray, List.getElem?_cons_succ, List.getElem?_cons_zero]; rfl)
    case hst18 => kernel_rfl
    case hft18 => kernel_rfl
    case hrt18 => kernel_rfl
    case hQt18 => exact fun _ _ _ h => h
    case hSt18 => assumption
    case hyt18 =>
      exact Or.inr ⟨by rfl, rfl⟩
    (try simp only [Act.put, List.setIfInBounds_toArray, List.set_cons_zero, List.set_cons_succ])
    refine' wpAnyH_take (i := 6) (oi := _) (v := _) ?hit19 ?hst19 ?hft19 ?hrt19 ?hQt19 ?hyt19 ?hSt19 ?_
    case hit19 => (simp only [List.getElem?_toArray, List.getElem?_cons_succ, List.getElem?_cons_zero]; rfl)
    case hst19 => kernel_rfl
    case hft19 => kernel_rfl
    case hrt19 => kernel_rfl
    case hQt19 => exact fun _ _ _ h => h
    case hSt19 => assumption
    case hyt19 =>
      refine Or.inl ⟨by rfl, ?_⟩
      intro w hSw
      (try dsimp only at hSw)
      go_simp
      all_goals (with_reducible rfl)
    (try simp only [Act.put, List.setIfInBounds_toArray, List.set_cons_zero, List.set_cons_succ])
    refine wpAnyH_ready (rs := [7]) (by kernel_rfl) (by simp) ?_
    refine' (AllReadyH.cons (o := _) ?hir20_7 (fun K hK => ?br20_7) AllReadyH.nil)
    case hir20_7 => (simp only [List.getElem?_toArray, List.getElem?_cons_succ, List.getElem?_cons_zero]; rfl)
    case br20_7 =>
      refine step_of_wp rfl ?_
      refine wp_store_row 28 (.tmp 2) (.tmp 19) rfl (w.heap.size + 1) cu rfl rfl 28 _ (V1.out.old HB0.out) ou.out.1 ou.out.2.2 ou.out.2.1 ?_
      refine hK.out _ _ ?_ (fun hHeld => ?_)
      exact ⟨(V5.out.old HB0.out).rowFar (by have := L5.out; omega) _, (V7.out.old HB0.out).rowFar (by have := L5.out; have := L7.out; omega) _⟩
      clear hK K
      (try simp only [Act.put, List.setIfInBounds_toArray, List.set_cons_zero, List.set_cons_succ])
      refine wpAnyH_ready (rs := [8]) (by kernel_rfl) (by simp) ?_
      refine' (AllReadyH.cons (o := _) ?hir22_8 (fun K hK => ?br22_8) AllReadyH.nil)
      case hir22_8 => (simp only [List.getElem?_toArray, List.getElem?_cons_succ, List.getElem?_cons_zero]; rfl)
      case br22_8 =>
        refine step_of_wp rfl ?_
        refine wp_store_row 35 (.tmp 3) (.tmp 20) rfl (w.heap.size + 2) cf rfl rfl 35 z ((V2.out.old HB0.out).rowFar (by omega) _) of.out.1 of.out.2.2 of.out.2.1 ?_
        refine hK.out _ _ ?_ (fun hHeld => ?_)
        exact ⟨((V5.out.old HB0.out).rowFar (by have := L5.out; omega) _).rowFar (by have := L5.out; omega) _, ((V7.out.old HB0.out).rowFar (by have := L5.out; have := L7.out; omega) _).rowFar (by have := L5.out; have := L7.out; omega) _⟩
        clear hK K
        (try simp only [Act.put, List.setIfInBounds_toArray, List.set_cons_zero, List.set_cons_succ])
        refine' wpAnyH_take (i := 9) (oi := _) (v := _) ?hit24 ?hst24 ?hft24 ?hrt24 ?hQt24 ?hyt24 ?hSt24 ?_
        case hit24 => (simp only [List.getElem?_toArray, List.getElem?_cons_succ, List.getElem?_cons_zero]; rfl)
        case hst24 => kernel_rfl
        case hft24 => kernel_rfl
        case hrt24 => kernel_rfl
        case hQt24 => exact fun _ _ _ h => h
        case hSt24 => assumption
        case hyt24 =>
          refine Or.inl ⟨by rfl, ?_⟩
          intro w hSw
          (try dsimp only at hSw)
          go_simp
          all_goals (with_reducible rfl)
        (try simp only [Act.put, List.setIfInBounds_toArray, List.set_cons_zero, List.set_cons_succ])
        refine wpAnyH_done (by kernel_rfl) ?_ _
        have hfe := Lib.hid ((((V1.out.old HB0.out).row cu).rowFar (g' := w.heap.size + 2) (by omega) cf))
        have hff := Lib.hid (((V2.out.old HB0.out).rowFar (g' := w.heap.size + 1) (by omega) cu).row cf)
        have hbe := Lib.hid (below_row (below_row (HB4.out.trans (HB0.out.mono HB4.out.size)) (show w.heap.size ≤ w.heap.size + 1 by omega) cu) (show w.heap.size ≤ w.heap.size + 2 by omega) cf)
        generalize World.setRow _ (w.heap.size + 2) cf = VF at *
        clear hHeld
        go_wp2_with fail
        refine bodyPost_ret (v := .tuple #[.agg cu, .agg cf, .bool false]) ?_ rfl ⟨rfl, hbe.out⟩
        exact results_two_rows Tryd.results16 _ _ _ _ _ _ _ _ _ _ _ _ rfl rfl rfl hfe.out hff.out Tryd.underlying28 Tryd.underlying35 ou.out.1 of.out.1
end Go.Proofs.YtphlehinjooncaaDoor
