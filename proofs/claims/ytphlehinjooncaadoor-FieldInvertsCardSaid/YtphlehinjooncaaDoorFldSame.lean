/-
  The contract of the laws' same: an element's bytes are the document's. Conditions: numbers below 2^256.
-/
import Derived.Test.YtphlehinjooncaaDoorFldGet
set_option linter.unusedVariables false
set_option linter.unusedSimpArgs false
namespace Go.Proofs.YtphlehinjooncaaDoor
open Go Go.Proofs Go.RowKit F5

theorem slice32 (g : Nat) (W : World) : (Instr.sliceAt 41 (.pointer (some ⟨g, 0, none⟩)) none none none).run Tryd.prog W = .ok (.slice (some ⟨g, 0, none⟩) 32 32) W := by
  have hal : Tryd.prog.arrayLen 41 = 32 := by kernel_rfl
  have hel : Tryd.prog.elem 41 = 5 := by kernel_rfl
  rw [run_sliceAt_array_all W 41 ⟨g, 0, none⟩ (by rw [hal, hel]; exact Tryd.underlying41), hal, hel, Tryd.sizeOf5]
  rfl
theorem reads_blk {w : World} {g t : Nat} {l : List UInt8} (h : Blk w g t (bytesA l)) : Reads w w.heap.size 1 (some ⟨g, 0, none⟩) l.length (Lib.byteCells l) := by
  refine ⟨by simp [Lib.byteCells_length], fun _ => ⟨_, rfl, h.lt, fun j u hj => ?_⟩⟩
  have e : (⟨g, 0, none⟩ : Addr).add j = ⟨g, j, none⟩ := by unfold Addr.add; split <;> simp_all
  rw [e, h.cell, bytesA, List.getElem?_toArray]
  exact hj
theorem quiet_back {o : Oper} {ev : Operand → Value} {w : World} (x : Operand) (A : Option Addr) (n c B : Nat) (l : List UInt8) (hx : ev x = .slice A n c) (hr : Reads w B 1 A n (Lib.byteCells l)) (ho : o.op = .convert 22 9 x) :
    (execOp ev o).run Tryd.prog w = .ok (.value (.string ⟨l.toArray⟩)) w := by
  unfold execOp
  simp only [ho, hx, Sem.run_bind, run_back hr, Result.andThen_ok, Sem.run_pure]
theorem wp_back {o : Oper} {a : Act} {w : World} {K : Act → World → Prop} {Q : Exit → Act → World → Prop} (x : Operand) (A : Option Addr) (n c B : Nat) (l : List UInt8) (hx : a.eval x = .slice A n c) (hr : Reads w B 1 A n (Lib.byteCells l)) (ho : o.op = .convert 22 9 x)
    (h : K (a.put o.dst (.string ⟨l.toArray⟩)) w) : o.wp Tryd.prog a w K Q := by
  unfold Oper.wp execOp
  simp only [ho, hx, Sem.run_bind, run_back hr, Result.andThen_ok, Sem.run_pure]
  exact h
theorem str_eq (l l' : List UInt8) : ((⟨l.toArray⟩ : ByteArray).toList == (⟨l'.toArray⟩ : ByteArray).toList) = decide (l = l') := by
  rw [Lib.toList_data, Lib.toList_data]
  rw [Bool.eq_iff_iff]
  simp

set_option maxHeartbeats 4000000 in
set_option maxRecDepth 100000 in
theorem same_f (n m : Nat) (hn : n < 2 ^ 256) (hm : m < 2 ^ 256) (w : World) :
    Calls Tryd.prog 11 #[elemV n, refV m] w fun e w' => e = .returned (.bool (decide (n = m))) ∧ Below w.heap.size w w' := by
  have HNM : Hid (decide (fbytes n = fbytes m) = decide (n = m)) := Lib.hid (decide_eq_decide.2 (fbytes_inj hn hm))
  unfold elemV refV
  obtain ⟨z, hz⟩ : ∃ z, Hid (z = bytesA (List.replicate 32 0)) := ⟨_, Lib.hid rfl⟩
  have hz0 : ∀ W, (zeroValue 41).run Tryd.prog W = .ok (.agg z) W := by
    rw [hz.out]; exact (zero_of_info (n := 32) (by kernel_rfl)).1
  obtain ⟨cn, hcn⟩ : ∃ c, Hid (c = limA n) := ⟨_, Lib.hid rfl⟩
  obtain ⟨cm, hcm⟩ : ∃ c, Hid (c = limF m) := ⟨_, Lib.hid rfl⟩
  rw [← hcn.out, ← hcm.out]
  have hie : Hid ((Tryd.prog.info? 28).map (·.size) = some cn.size) := by rw [hcn.out]; exact Lib.hid (limA_infoE n)
  have hx2 : Hid (Blk ((w.alloc (.cells cn 28)).alloc (.cells cm 35)) w.heap.size 28 cn) := Lib.hid ((Blk.new w _ cn).alloc _)
  go_enter Tryd.func11, Tryd.ntmps11
  go_wp2_with (first | (refine wpList_load_row rfl 28 (.tmp 2) rfl w.heap.size rfl 28 cn (0, 0) _ hx2.out Tryd.underlying28 rfl hie.out ?_))
  have hy : Blk ((w.alloc (.cells cn 28)).alloc (.cells cm 35)) (w.heap.size + 1) 35 cm := by
    have := Blk.new (w.alloc (.cells cn 28)) 35 cm
    rwa [show (w.alloc (.cells cn 28)).heap.size = w.heap.size + 1 by simp] at this
  have hb0 : Below w.heap.size w ((w.alloc (.cells cn 28)).alloc (.cells cm 35)) := ((Below.refl _ _).alloc (Nat.le_refl _) _).alloc (by simp) _
  have HCN := hcn.out
  subst HCN
  refine (bytes_e n _).mono ?_
  rintro e w1 ⟨rfl, hb1⟩
  have HY := Lib.hid (hy.old hb1)
  have HB1 := Lib.hid (hb0.trans (hb1.mono hb0.size))
  have hRi := Lib.hid (fbytes_info n)
  have hR1 := Lib.hid (bytesA_one (fbytes n))
  have hzz : Hid (z.size = (bytesA (fbytes n)).size) := Lib.hid (by rw [hz.out, bytesA_size, bytesA_size, fbytes_length]; rfl)
  clear hy hb0 hb1
  go_wp2_with (first | (refine wpList_store_row rfl 41 (.tmp 5) (.tmp 7) rfl w1.heap.size (bytesA (fbytes n)) rfl rfl 41 z (heap_alloc_new w1 _) hRi.out hzz.out hR1.out ?_; rw [setRow_alloc1]))
  have hN := Blk.new w1 41 (bytesA (fbytes n))
  have hY2 := HY.out.alloc (.cells (bytesA (fbytes n)) 41)
  have hb2 := HB1.out.alloc HB1.out.size (.cells (bytesA (fbytes n)) 41)
  have hsl := slice32 w1.heap.size
  generalize w1.alloc (.cells (bytesA (fbytes n)) 41) = W0 at *
  have hbd : Below W0.heap.size W0 W0.drew := (Below.refl _ _).drew
  have HN := Lib.hid hN
  have HY2 := Lib.hid hY2
  have HB2 := Lib.hid hb2
  have hFi : Hid ((Tryd.prog.info? 35).map (·.size) = some cm.size) := by rw [hcm.out]; exact Lib.hid (limF_info m)
  clear hN hY2 hb2
  refine wp_region_held_drew (S := fun W => Below W0.heap.size W0 W) (by kernel_rfl) hbd (fun hHeld => ?_)
  refine' wpAnyH_take (i := 0) (oi := _) (v := _) ?hit0 ?hst0 ?hft0 ?hrt0 ?hQt0 ?hyt0 ?hSt0 ?_
  case hit0 => (simp only [List.getElem?_toArray, List.getElem?_cons_succ, List.getElem?_cons_zero]; rfl)
  case hst0 => kernel_rfl
  case hft0 => kernel_rfl
  case hrt0 => kernel_rfl
  case hQt0 => exact fun _ _ _ h => h
  case hSt0 => assumption
  case hyt0 =>
    refine Or.inl ⟨by rfl, ?_⟩
    intro w hSw
    (try dsimp only at hSw)
    go_simp
    all_goals (with_reducible rfl)
  (try simp only [Act.put, List.setIfInBounds_toArray, List.set_cons_zero, List.set_cons_succ])
  refine' wpAnyH_take (i := 1) (oi := _) (v := .string ⟨(fbytes n).toArray⟩) ?hit1 ?hst1 ?hft1 ?hrt1 ?hQt1 ?hyt1 ?hSt1 ?_
  case hit1 => (simp only [List.getElem?_toArray, List.getElem?_cons_succ, List.getElem?_cons_zero]; rfl)
  case hst1 => kernel_rfl
  case hft1 => kernel_rfl
  case hrt1 => kernel_rfl
  case hQt1 => exact fun _ _ _ h => h
  case hSt1 => assumption
  case hyt1 =>
    refine Or.inl ⟨by rfl, ?_⟩
    intro W hS
    exact quiet_back (.tmp 8) (some ⟨w1.heap.size, 0, none⟩) 32 32 _ (fbytes n) rfl (by have := reads_blk (HN.out.old hS); rwa [fbytes_length] at this) rfl
  (try simp only [Act.put, List.setIfInBounds_toArray, List.set_cons_zero, List.set_cons_succ])
  refine' wpAnyH_take (i := 2) (oi := _) (v := .agg cm) ?hit2 ?hst2 ?hft2 ?hrt2 ?hQt2 ?hyt2 ?hSt2 ?_
  case hit2 => (simp only [List.getElem?_toArray, List.getElem?_cons_succ, List.getElem?_cons_zero]; rfl)
  case hst2 => kernel_rfl
  case hft2 => kernel_rfl
  case hrt2 => kernel_rfl
  case hQt2 => exact fun _ _ _ h => h
  case hSt2 => assumption
  case hyt2 =>
    refine Or.inl ⟨by rfl, ?_⟩
    intro W hS
    exact quiet_load_row 35 (.tmp 3) (w.heap.size + 1) rfl 35 cm _ (HY2.out.old hS) Tryd.underlying35 rfl hFi.out rfl
  (try simp only [Act.put, List.setIfInBounds_toArray, List.set_cons_zero, List.set_cons_succ])
  refine wpAnyH_ready (rs := [3]) (by kernel_rfl) (by simp) ?_
  refine' AllReadyH.cons (o := _) ?hir3 (fun K hK => ?_) AllReadyH.nil
  case hir3 => (simp only [List.getElem?_toArray, List.getElem?_cons_succ, List.getElem?_cons_zero]; rfl)
  go_simp
  go_at_call 29
  rw [hcm.out]
  refine (refBytes_any m _).mono ?_
  rintro e w6 ⟨v6, rfl, ho6, hb6⟩
  obtain ⟨A6, c6, rfl, hc6⟩ := own_form_cap ho6
  have hr6 := Reads.of_own ho6
  refine hK.out _ _ ?_ (fun hHeld => ?_)
  exact hbd.trans (hb6.mono hbd.size)
  clear hK K
  (try simp only [Act.put, List.setIfInBounds_toArray, List.set_cons_zero, List.set_cons_succ])
  refine wpAnyH_ready (rs := [4]) (by kernel_rfl) (by simp) ?_
  refine' AllReadyH.cons (o := _) ?hir4 (fun K hK => ?_) AllReadyH.nil
  case hir4 => (simp only [List.getElem?_toArray, List.getElem?_cons_succ, List.getElem?_cons_zero]; rfl)
  refine step_of_wp rfl ?_
  refine wp_back (.tmp 11) A6 32 c6 _ (fbytes m) rfl hr6 rfl ?_
  refine hK.out _ _ ?_ (fun hHeld => ?_)
  exact hbd.trans (hb6.mono hbd.size)
  clear hK K
  (try simp only [Act.put, List.setIfInBounds_toArray, List.set_cons_zero, List.set_cons_succ])
  refine' wpAnyH_take (i := 5) (oi := _) (v := _) ?hit5 ?hst5 ?hft5 ?hrt5 ?hQt5 ?hyt5 ?hSt5 ?_
  case hit5 => (simp only [List.getElem?_toArray, List.getElem?_cons_succ, List.getElem?_cons_zero]; rfl)
  case hst5 => kernel_rfl
  case hft5 => kernel_rfl
  case hrt5 => kernel_rfl
  case hQt5 => exact fun _ _ _ h => h
  case hSt5 => assumption
  case hyt5 =>
    refine Or.inl ⟨by rfl, ?_⟩
    intro w hSw
    (try dsimp only at hSw)
    go_simp
    all_goals (with_reducible rfl)
  (try simp only [Act.put, List.setIfInBounds_toArray, List.set_cons_zero, List.set_cons_succ])
  refine' wpAnyH_take (i := 6) (oi := _) (v := _) ?hit6 ?hst6 ?hft6 ?hrt6 ?hQt6 ?hyt6 ?hSt6 ?_
  case hit6 => (simp only [List.getElem?_toArray, List.getElem?_cons_succ, List.getElem?_cons_zero]; rfl)
  case hst6 => kernel_rfl
  case hft6 => kernel_rfl
  case hrt6 => kernel_rfl
  case hQt6 => exact fun _ _ _ h => h
  case hSt6 => assumption
  case hyt6 =>
    refine Or.inl ⟨by rfl, ?_⟩
    intro w hSw
    (try dsimp only at hSw)
    go_simp
    all_goals (with_reducible rfl)
  (try simp only [Act.put, List.setIfInBounds_toArray, List.set_cons_zero, List.set_cons_succ])
  refine wpAnyH_done (by kernel_rfl) ?_ _
  go_wp2
  go_ret
  refine ⟨ret_bool ?_, HB2.out.trans ((hbd.trans (hb6.mono hbd.size)).mono HB2.out.size)⟩
  rw [← HNM.out, Bool.eq_iff_iff]
  simp
end Go.Proofs.YtphlehinjooncaaDoor
