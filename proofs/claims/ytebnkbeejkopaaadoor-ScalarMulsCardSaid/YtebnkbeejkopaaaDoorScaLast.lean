/-
  The contracts of scalar's rest, Reduce, May and MulAdd: the program's numbers modulo L are as they must be. Condition: L stands in its variable.
-/
import Derived.Test.YtebnkbeejkopaaaDoorScaTimes
import Derived.Laws.Cover3
set_option linter.unusedVariables false
set_option linter.unusedSimpArgs false
namespace Go.Proofs.YtebnkbeejkopaaaDoor
open Go Go.Proofs Go.RowKit F5

theorem sarr32 (p : Option Addr) (n c : Nat) (hn : 32 ≤ n) (W : World) : (Instr.arrayAt 24 (.slice p n c)).run Tryd.prog W = .ok (.pointer p) W := run_arrayAt W _ _ 32 p n c Tryd.underlying24 hn
theorem srun_loadVar_add {P : Program} (w : World) (ad : Addr) (t e : TypeId) (n : Nat) (cs : Array Value) (hu : P.underlying t = some (.array n e)) (hi : (P.info? t).map (·.size) = some cs.size)
    (hc : ∀ j v, cs[j]? = some v → w.cell? (ad.add j) = some v) : (loadVar t ad).run P w = .ok (.agg cs) w := by
  have hl : (loadCells ad cs.toList.length).run P w = .ok cs.toList.toArray w := run_loadCells_list (P := P) w ad cs.toList (fun j v hv => hc j v (by simpa using hv))
  cases hq : P.info? t with
  | none => simp [hq] at hi
  | some i =>
    have hs : i.size = cs.size := by simpa [hq] using hi
    have hagg : (isAgg t).run P w = .ok true w := by
      unfold isAgg
      rw [Sem.run_bind, run_underlying hu w]
      simp [Result.andThen]
    simp only [Array.length_toList, Array.toArray_toList] at hl
    simp [loadVar, Sem.run_bind, hagg, sizeOf, typeInfo, hq, hs, hl, Result.andThen]
theorem squiet_load_add {P : Program} {o : Oper} {ev : Operand → Value} {w : World} (t : TypeId) (x : Operand) (ad : Addr) (hx : ev x = .pointer (some ad)) (e : TypeId) (n : Nat) (cs : Array Value)
    (hu : P.underlying t = some (.array n e)) (hi : (P.info? t).map (·.size) = some cs.size) (hc : ∀ j v, cs[j]? = some v → w.cell? (ad.add j) = some v) (ho : o.op = .load t x) : (execOp ev o).run P w = .ok (.value (.agg cs)) w := by
  unfold execOp
  simp only [ho, hx, Instr.loadAt, Instr.sureAddr, Sem.run_bind, Sem.run_pure, Result.andThen_ok, srun_loadVar_add w ad t e n cs hu hi hc]

theorem built_limS0 : Tryd.prog.built 34 [(0, .int .u64 1)] = some (u64s [1, 0, 0, 0]) := by kernel_rfl
theorem built_limS : Tryd.prog.built 34 [(0, .int .u64 1)] = some (limS 1) := by
  have e : digs M 1 4 = [1, 0, 0, 0] := by decide +kernel
  rw [limS, e]; exact built_limS0

set_option maxHeartbeats 2000000 in
set_option maxRecDepth 100000 in
theorem srest_any (A : Option Addr) (len cap : Nat) (l : List UInt8) (hlen : l.length = len) (hmax : len ≤ 140737488351232) (w : World) (hr : Reads w w.heap.size 1 A len (Lib.byteCells l)) (hO : OrderAt w) :
    Calls Tryd.prog 14 #[.slice A len cap] w fun e w' => e = .returned (.agg (limS (bval l % LL))) ∧ Below w.heap.size w w' := by
  obtain ⟨R, hR⟩ : ∃ c, Hid (c = limS (bval l % LL)) := ⟨_, Lib.hid rfl⟩
  obtain ⟨o1, ho1⟩ : ∃ c, Hid (c = limS 1) := ⟨_, Lib.hid rfl⟩
  have hbl := built_limS
  rw [← ho1.out] at hbl
  have HBL := Lib.hid hbl
  have CT : Hid (∀ V, Reads V V.heap.size 1 A len (Lib.byteCells l) → OrderAt V → Calls Tryd.prog 18 #[.agg o1, .slice A len cap] V fun e w' => e = .returned (.agg R) ∧ Below V.heap.size V w') := Lib.hid fun V hV hq => by
    have h := stimes_any 1 (by decide) A len cap l hlen hmax V hV hq
    rw [Nat.one_mul] at h
    rwa [hR.out, ho1.out]
  rw [← hR.out]
  have oR : Hid ((Tryd.prog.info? 34).map (·.size) = some R.size) := by rw [hR.out]; exact Lib.hid (limS_info _)
  have pR : Hid (R.all (·.oneCell') = true) := by rw [hR.out]; exact Lib.hid (limS_one _)
  have zR : Hid (zeros4.size = R.size) := by rw [hR.out, limS_size]; exact Lib.hid rfl
  have hb1 := (Below.refl w.heap.size w).alloc (Nat.le_refl _) (.cells zeros4 34)
  have HR := Lib.hid ((hr.below hb1).more hb1.size)
  have HO := Lib.hid (hO.old hb1)
  have HB1 := Lib.hid hb1
  have B1 := Lib.hid (Blk.new w 34 zeros4)
  clear hbl hr hO hb1
  go_enter Tryd.func14, Tryd.ntmps14
  go_wp2_with (refine wpList_build_to rfl 34 #[(0, .const (.int .u64 1))] rfl [(0, .int .u64 1)] (by simp [Act.eval, Act.put]) o1 HBL.out ?_)
  refine (CT.out _ HR.out HO.out).mono ?_
  rintro e w2 ⟨rfl, hb2⟩
  have B2 := Lib.hid (B1.out.old hb2)
  have HB2 := Lib.hid (HB1.out.trans (hb2.mono HB1.out.size))
  clear hb2
  go_wp2_with (refine wpList_store_row rfl 34 (.tmp 2) (.tmp 5) rfl w.heap.size R rfl rfl 34 _ B2.out oR.out zR.out pR.out ?_)
  refine bodyPost_ret (v := .agg R) ?_ rfl ⟨rfl, below_row HB2.out (Nat.le_refl _) _⟩
  exact results_cell_row Tryd.results14 _ _ w.heap.size 34 R (0, 0) _ rfl (B2.out.row R) Tryd.underlying34 rfl oR.out

theorem zeros32 : Hid ((bytesA (List.replicate 32 0)).size = (bytesA (fbytes 0)).size) := Lib.hid (by rw [bytesA_size, bytesA_size, fbytes_length]; rfl)

set_option maxHeartbeats 2000000 in
set_option maxRecDepth 100000 in
theorem sreduce_any (A : Option Addr) (len cap : Nat) (l : List UInt8) (hlen : l.length = len) (hmax : len ≤ 140737488351232) (w : World) (hr : Reads w w.heap.size 1 A len (Lib.byteCells l)) (hO : OrderAt w) :
    Calls Tryd.prog 8 #[.slice A len cap] w fun e w' => e = .returned (.agg (bytesA (fbytes (bval l % LL)))) ∧ Below w.heap.size w w' := by
  obtain ⟨R, hR⟩ : ∃ c, Hid (c = bytesA (fbytes (bval l % LL))) := ⟨_, Lib.hid rfl⟩
  obtain ⟨r1, hr1⟩ : ∃ c, Hid (c = limS (bval l % LL)) := ⟨_, Lib.hid rfl⟩
  obtain ⟨z, hz⟩ : ∃ z, Hid (z = bytesA (List.replicate 32 0)) := ⟨_, Lib.hid rfl⟩
  have hz0 : ∀ W, (zeroValue 24).run Tryd.prog W = .ok (.agg z) W := by
    rw [hz.out]; exact (zero_of_info (n := 32) (by kernel_rfl)).1
  have CR : Hid (∀ V, Reads V V.heap.size 1 A len (Lib.byteCells l) → OrderAt V → Calls Tryd.prog 14 #[.slice A len cap] V fun e w' => e = .returned (.agg r1) ∧ Below V.heap.size V w') := Lib.hid fun V hV hq => by
    rw [hr1.out]; exact srest_any A len cap l hlen hmax V hV hq
  have CB : Hid (∀ V, Calls Tryd.prog 15 #[.agg r1] V fun e w' => e = .returned (.agg R) ∧ Below V.heap.size V w') := Lib.hid fun V => by
    rw [hr1.out, hR.out]; exact sbytes_any _ V
  rw [← hR.out]
  have oR : Hid ((Tryd.prog.info? 24).map (·.size) = some R.size) := by rw [hR.out]; exact Lib.hid (fbytes_info _)
  have pR : Hid (R.all (·.oneCell') = true) := by rw [hR.out]; exact Lib.hid (bytesA_one _)
  have zR : Hid (z.size = R.size) := by rw [hz.out, hR.out, bytesA_size, bytesA_size, fbytes_length]; exact Lib.hid rfl
  have hb1 := (Below.refl w.heap.size w).alloc (Nat.le_refl _) (.cells z 24)
  have HR := Lib.hid ((hr.below hb1).more hb1.size)
  have HO := Lib.hid (hO.old hb1)
  have HB1 := Lib.hid hb1
  have B1 := Lib.hid (Blk.new w 24 z)
  clear hr hO hb1
  go_enter Tryd.func8, Tryd.ntmps8
  go_wp2_with fail
  refine (CR.out _ HR.out HO.out).mono ?_
  rintro e w2 ⟨rfl, hb2⟩
  have B2 := Lib.hid (B1.out.old hb2)
  have HB2 := Lib.hid (HB1.out.trans (hb2.mono HB1.out.size))
  clear hb2
  go_wp2_with fail
  refine (CB.out _).mono ?_
  rintro e w3 ⟨rfl, hb3⟩
  have B3 := Lib.hid (B2.out.old hb3)
  have HB3 := Lib.hid (HB2.out.trans (hb3.mono HB2.out.size))
  clear hb3
  go_wp2_with (refine wpList_store_row rfl 24 (.tmp 2) (.tmp 5) rfl w.heap.size R rfl rfl 24 _ B3.out oR.out zR.out pR.out ?_)
  refine bodyPost_ret (v := .agg R) ?_ rfl ⟨rfl, below_row HB3.out (Nat.le_refl _) _⟩
  exact results_cell_row Tryd.results8 _ _ w.heap.size 24 R (0, 0) _ rfl (B3.out.row R) Tryd.underlying24 rfl oR.out

set_option maxHeartbeats 4000000 in
set_option maxRecDepth 100000 in
theorem smay_any (A : Option Addr) (n c : Nat) (l : List UInt8) (w : World) (hn : n ≤ 1000) (hr : Reads w w.heap.size 1 A n (Lib.byteCells l)) (hO : OrderAt w) :
    Calls Tryd.prog 10 #[.slice A n c] w fun e w' => e = .returned (.bool (mayB l)) ∧ Below w.heap.size w w' := by
  have hl : l.length = n := by have := hr.1; rw [Lib.byteCells_length] at this; omega
  have HR := Lib.hid hr
  have HB0 := Lib.hid ((Below.refl w.heap.size w).drew)
  by_cases h32 : n = 32
  · subst h32
    obtain ⟨ad, rfl, hadb, hadc⟩ := hr.2 (by omega)
    have HM := Lib.hid (mayB_eq hl)
    have HL := Lib.hid hl
    have HQ := Lib.hid (hO.old HB0.out)
    have harr := sarr32 (some ad) 32 c (by omega)
    have hcells : Hid (∀ W, Below w.heap.size w W → ∀ j v', (bytesA l)[j]? = some v' → W.cell? (ad.add j) = some v') := Lib.hid (by
      intro W hW j v' hj
      obtain ⟨ad', hA, hadb, hcell⟩ := (HR.out.below hW).2 (by omega)
      injection hA with hA
      subst hA
      exact hcell j v' (by rw [bytesA, List.getElem?_toArray] at hj; exact hj))
    have hinf : (Tryd.prog.info? 24).map (·.size) = some (bytesA l).size := by rw [bytesA_size, hl]; exact info32s
    have HI := Lib.hid hinf
    clear hr hl hadb hadc hO hinf
    go_enter Tryd.func10, Tryd.ntmps10
    go_wp2_with fail
    refine wp_region_held_drew (S := fun V => Below w.heap.size w V) (by kernel_rfl) HB0.out (fun hHeld => ?_)
    generalize w.drew = W0 at *
    refine' wpAnyH_take (i := 0) (oi := _) (v := _) ?hit0 ?hst0 ?hft0 ?hrt0 ?hQt0 ?hyt0 ?hSt0 ?_
    case hit0 => (simp only [List.getElem?_toArray, List.getElem?_cons_succ, List.getElem?_cons_zero]; rfl)
    case hst0 => kernel_rfl
    case hft0 => kernel_rfl
    case hrt0 => kernel_rfl
    case hQt0 => exact fun _ _ _ h => h
    case hSt0 => assumption
    case hyt0 =>
      refine Or.inl ⟨by rfl, ?_⟩
      intro w hSw
      (try dsimp only at hSw)
      go_simp
      all_goals (with_reducible rfl)
    (try simp only [Act.put, List.setIfInBounds_toArray, List.set_cons_zero, List.set_cons_succ])
    refine' wpAnyH_take (i := 1) (oi := _) (v := _) ?hit1 ?hst1 ?hft1 ?hrt1 ?hQt1 ?hyt1 ?hSt1 ?_
    case hit1 => (simp only [List.getElem?_toArray, List.getElem?_cons_succ, List.getElem?_cons_zero]; rfl)
    case hst1 => kernel_rfl
    case hft1 => kernel_rfl
    case hrt1 => kernel_rfl
    case hQt1 => exact fun _ _ _ h => h
    case hSt1 => assumption
    case hyt1 =>
      refine Or.inl ⟨by rfl, ?_⟩
      intro w hSw
      (try dsimp only at hSw)
      go_simp
      all_goals (with_reducible rfl)
    (try simp only [Act.put, List.setIfInBounds_toArray, List.set_cons_zero, List.set_cons_succ])
    refine' wpAnyH_take (i := 2) (oi := _) (v := _) ?hit2 ?hst2 ?hft2 ?hrt2 ?hQt2 ?hyt2 ?hSt2 ?_
    case hit2 => (simp only [List.getElem?_toArray, List.getElem?_cons_succ, List.getElem?_cons_zero]; rfl)
    case hst2 => kernel_rfl
    case hft2 => kernel_rfl
    case hrt2 => kernel_rfl
    case hQt2 => exact fun _ _ _ h => h
    case hSt2 => assumption
    case hyt2 =>
      refine Or.inl ⟨by rfl, ?_⟩
      intro w hSw
      (try dsimp only at hSw)
      go_simp
      all_goals (with_reducible rfl)
    (try simp only [Act.put, List.setIfInBounds_toArray, List.set_cons_zero, List.set_cons_succ])
    refine' wpAnyH_take (i := 3) (oi := _) (v := _) ?hit3 ?hst3 ?hft3 ?hrt3 ?hQt3 ?hyt3 ?hSt3 ?_
    case hit3 => (simp only [List.getElem?_toArray, List.getElem?_cons_succ, List.getElem?_cons_zero]; rfl)
    case hst3 => kernel_rfl
    case hft3 => kernel_rfl
    case hrt3 => kernel_rfl
    case hQt3 => exact fun _ _ _ h => h
    case hSt3 => assumption
    case hyt3 =>
      refine Or.inl ⟨by rfl, ?_⟩
      intro w hSw
      (try dsimp only at hSw)
      go_simp
      all_goals (with_reducible rfl)
    (try simp only [Act.put, List.setIfInBounds_toArray, List.set_cons_zero, List.set_cons_succ])
    refine' wpAnyH_take (i := 4) (oi := _) (v := _) ?hit4 ?hst4 ?hft4 ?hrt4 ?hQt4 ?hyt4 ?hSt4 ?_
    case hit4 => (simp only [List.getElem?_toArray, List.getElem?_cons_succ, List.getElem?_cons_zero]; rfl)
    case hst4 => kernel_rfl
    case hft4 => kernel_rfl
    case hrt4 => kernel_rfl
    case hQt4 => exact fun _ _ _ h => h
    case hSt4 => assumption
    case hyt4 =>
      refine Or.inl ⟨by rfl, ?_⟩
      intro w hSw
      (try dsimp only at hSw)
      go_simp
      all_goals (with_reducible rfl)
    (try simp only [Act.put, List.setIfInBounds_toArray, List.set_cons_zero, List.set_cons_succ])
    refine' wpAnyH_take (i := 6) (oi := _) (v := _) ?hit6 ?hst6 ?hft6 ?hrt6 ?hQt6 ?hyt6 ?hSt6 ?_
    case hit6 => (simp only [List.getElem?_toArray, List.getElem?_cons_succ, List.getElem?_cons_zero]; rfl)
    case hst6 => kernel_rfl
    case hft6 => kernel_rfl
    case hrt6 => kernel_rfl
    case hQt6 => exact fun _ _ _ h => h
    case hSt6 => assumption
    case hyt6 =>
      refine Or.inl ⟨by rfl, ?_⟩
      intro w hSw
      (try dsimp only at hSw)
      go_simp
      all_goals (with_reducible rfl)
    (try simp only [Act.put, List.setIfInBounds_toArray, List.set_cons_zero, List.set_cons_succ])
    refine' wpAnyH_take (i := 7) (oi := _) (v := _) ?hit7 ?hst7 ?hft7 ?hrt7 ?hQt7 ?hyt7 ?hSt7 ?_
    case hit7 => (simp only [List.getElem?_toArray, List.getElem?_cons_succ, List.getElem?_cons_zero]; rfl)
    case hst7 => kernel_rfl
    case hft7 => kernel_rfl
    case hrt7 => kernel_rfl
    case hQt7 => exact fun _ _ _ h => h
    case hSt7 => assumption
    case hyt7 =>
      refine Or.inl ⟨by rfl, ?_⟩
      intro w hSw
      (try dsimp only at hSw)
      go_simp
      all_goals (with_reducible rfl)
    (try simp only [Act.put, List.setIfInBounds_toArray, List.set_cons_zero, List.set_cons_succ])
    refine' wpAnyH_take (i := 8) (oi := _) (v := .agg (bytesA l)) ?hit8 ?hst8 ?hft8 ?hrt8 ?hQt8 ?hyt8 ?hSt8 ?_
    case hit8 => (simp only [List.getElem?_toArray, List.getElem?_cons_succ, List.getElem?_cons_zero]; rfl)
    case hst8 => kernel_rfl
    case hft8 => kernel_rfl
    case hrt8 => kernel_rfl
    case hQt8 => exact fun _ _ _ h => h
    case hSt8 => assumption
    case hyt8 =>
      refine Or.inl ⟨by rfl, ?_⟩
      intro W hS
      exact squiet_load_add 24 (.tmp 10) ad rfl _ _ (bytesA l) Tryd.underlying24 HI.out (hcells.out _ hS) rfl
    (try simp only [Act.put, List.setIfInBounds_toArray, List.set_cons_zero, List.set_cons_succ])
    refine wpAnyH_ready (rs := [5]) (by kernel_rfl) (by simp) ?_
    refine' AllReadyH.cons (o := _) ?hir5 (fun K hK => ?_) AllReadyH.nil
    case hir5 => (simp only [List.getElem?_toArray, List.getElem?_cons_succ, List.getElem?_cons_zero]; rfl)
    go_simp
    refine (sreduce_any (some ad) 32 c l HL.out (by omega) _ ((HR.out.below HB0.out).more HB0.out.size) HQ.out).mono ?_
    rintro e w6 ⟨rfl, hb6⟩
    have HB6 := Lib.hid (HB0.out.trans (hb6.mono HB0.out.size))
    clear hb6
    go_wp2_with fail
    refine hK.out _ _ ?_ (fun hHeld => ?_)
    exact HB6.out
    clear hK K
    (try simp only [Act.put, List.setIfInBounds_toArray, List.set_cons_zero, List.set_cons_succ])
    refine' wpAnyH_take (i := 9) (oi := _) (v := .bool (decide (fbytes (bval l % LL) = l))) ?hit9 ?hst9 ?hft9 ?hrt9 ?hQt9 ?hyt9 ?hSt9 ?_
    case hit9 => (simp only [List.getElem?_toArray, List.getElem?_cons_succ, List.getElem?_cons_zero]; rfl)
    case hst9 => kernel_rfl
    case hft9 => kernel_rfl
    case hrt9 => kernel_rfl
    case hQt9 => exact fun _ _ _ h => h
    case hSt9 => assumption
    case hyt9 =>
      refine Or.inl ⟨by rfl, ?_⟩
      intro W hS
      exact quiet_eql_bytes W (.tmp 8) (.tmp 11) _ _ _ (fbytes_length _) HL.out rfl rfl rfl
    (try simp only [Act.put, List.setIfInBounds_toArray, List.set_cons_zero, List.set_cons_succ])
    refine' wpAnyH_take (i := 10) (oi := _) (v := _) ?hit10 ?hst10 ?hft10 ?hrt10 ?hQt10 ?hyt10 ?hSt10 ?_
    case hit10 => (simp only [List.getElem?_toArray, List.getElem?_cons_succ, List.getElem?_cons_zero]; rfl)
    case hst10 => kernel_rfl
    case hft10 => kernel_rfl
    case hrt10 => kernel_rfl
    case hQt10 => exact fun _ _ _ h => h
    case hSt10 => assumption
    case hyt10 =>
      refine Or.inl ⟨by rfl, ?_⟩
      intro w hSw
      (try dsimp only at hSw)
      go_simp
      all_goals (with_reducible rfl)
    (try simp only [Act.put, List.setIfInBounds_toArray, List.set_cons_zero, List.set_cons_succ])
    refine' wpAnyH_take (i := 11) (oi := _) (v := _) ?hit11 ?hst11 ?hft11 ?hrt11 ?hQt11 ?hyt11 ?hSt11 ?_
    case hit11 => (simp only [List.getElem?_toArray, List.getElem?_cons_succ, List.getElem?_cons_zero]; rfl)
    case hst11 => kernel_rfl
    case hft11 => kernel_rfl
    case hrt11 => kernel_rfl
    case hQt11 => exact fun _ _ _ h => h
    case hSt11 => assumption
    case hyt11 =>
      refine Or.inl ⟨by rfl, ?_⟩
      intro w hSw
      (try dsimp only at hSw)
      go_simp
      all_goals (with_reducible rfl)
    (try simp only [Act.put, List.setIfInBounds_toArray, List.set_cons_zero, List.set_cons_succ])
    refine wpAnyH_done (by kernel_rfl) ?_ _
    clear hHeld
    go_wp2_with fail
    go_ret
    exact ⟨by rw [← HM.out]; rfl, HB6.out⟩
  · have hne : ((n : Int) == 32) = false := by rw [beq_eq_false_iff_ne]; omega
    have HM := Lib.hid (mayB_no (l := l) (by rw [hl]; exact h32))
    clear hr hl h32
    go_enter Tryd.func10, Tryd.ntmps10
    go_wp2_with fail
    refine wp_region_held_drew (S := fun V => Below w.heap.size w V) (by kernel_rfl) HB0.out (fun hHeld => ?_)
    generalize w.drew = W0 at *
    refine' wpAnyH_take (i := 0) (oi := _) (v := _) ?hit1 ?hst1 ?hft1 ?hrt1 ?hQt1 ?hyt1 ?hSt1 ?_
    case hit1 => (simp only [List.getElem?_toArray, List.getElem?_cons_succ, List.getElem?_cons_zero]; rfl)
    case hst1 => kernel_rfl
    case hft1 => kernel_rfl
    case hrt1 => kernel_rfl
    case hQt1 => exact fun _ _ _ h => h
    case hSt1 => assumption
    case hyt1 =>
      refine Or.inl ⟨by rfl, ?_⟩
      intro w hSw
      (try dsimp only at hSw)
      go_simp
      all_goals (with_reducible rfl)
    (try simp only [Act.put, List.setIfInBounds_toArray, List.set_cons_zero, List.set_cons_succ])
    refine' wpAnyH_take (i := 1) (oi := _) (v := _) ?hit2 ?hst2 ?hft2 ?hrt2 ?hQt2 ?hyt2 ?hSt2 ?_
    case hit2 => (simp only [List.getElem?_toArray, List.getElem?_cons_succ, List.getElem?_cons_zero]; rfl)
    case hst2 => kernel_rfl
    case hft2 => kernel_rfl
    case hrt2 => kernel_rfl
    case hQt2 => exact fun _ _ _ h => h
    case hSt2 => assumption
    case hyt2 =>
      refine Or.inl ⟨by rfl, ?_⟩
      intro w hSw
      (try dsimp only at hSw)
      go_simp
      all_goals (with_reducible rfl)
    (try simp only [Act.put, List.setIfInBounds_toArray, List.set_cons_zero, List.set_cons_succ])
    refine' wpAnyH_take (i := 2) (oi := _) (v := _) ?hit3 ?hst3 ?hft3 ?hrt3 ?hQt3 ?hyt3 ?hSt3 ?_
    case hit3 => (simp only [List.getElem?_toArray, List.getElem?_cons_succ, List.getElem?_cons_zero]; rfl)
    case hst3 => kernel_rfl
    case hft3 => kernel_rfl
    case hrt3 => kernel_rfl
    case hQt3 => exact fun _ _ _ h => h
    case hSt3 => assumption
    case hyt3 =>
      refine Or.inl ⟨by rfl, ?_⟩
      intro w hSw
      (try dsimp only at hSw)
      go_simp
      all_goals (with_reducible rfl)
    (try simp only [Act.put, List.setIfInBounds_toArray, List.set_cons_zero, List.set_cons_succ])
    refine' wpAnyH_take (i := 3) (oi := _) (v := _) ?hit4 ?hst4 ?hft4 ?hrt4 ?hQt4 ?hyt4 ?hSt4 ?_
    case hit4 => (simp only [List.getElem?_toArray, List.getElem?_cons_succ, List.getElem?_cons_zero]; rfl)
    case hst4 => kernel_rfl
    case hft4 => kernel_rfl
    case hrt4 => kernel_rfl
    case hQt4 => exact fun _ _ _ h => h
    case hSt4 => assumption
    case hyt4 =>
      refine Or.inl ⟨by rfl, ?_⟩
      intro w hSw
      (try dsimp only at hSw)
      go_simp
      all_goals (with_reducible rfl)
    (try simp only [Act.put, List.setIfInBounds_toArray, List.set_cons_zero, List.set_cons_succ])
    refine' wpAnyH_take (i := 4) (oi := _) (v := undef) ?hit5 ?hst5 ?hft5 ?hrt5 ?hQt5 ?hyt5 ?hSt5 ?_
    case hit5 => (simp only [List.getElem?_toArray, List.getElem?_cons_succ, List.getElem?_cons_zero]; rfl)
    case hst5 => kernel_rfl
    case hft5 => kernel_rfl
    case hrt5 => kernel_rfl
    case hQt5 => exact fun _ _ _ h => h
    case hSt5 => assumption
    case hyt5 =>
      exact Or.inr ⟨by rfl, rfl⟩
    (try simp only [Act.put, List.setIfInBounds_toArray, List.set_cons_zero, List.set_cons_succ])
    refine' wpAnyH_take (i := 5) (oi := _) (v := undef) ?hit6 ?hst6 ?hft6 ?hrt6 ?hQt6 ?hyt6 ?hSt6 ?_
    case hit6 => (simp only [List.getElem?_toArray, List.getElem?_cons_succ, List.getElem?_cons_zero]; rfl)
    case hst6 => kernel_rfl
    case hft6 => kernel_rfl
    case hrt6 => kernel_rfl
    case hQt6 => exact fun _ _ _ h => h
    case hSt6 => assumption
    case hyt6 =>
      exact Or.inr ⟨by rfl, rfl⟩
    (try simp only [Act.put, List.setIfInBounds_toArray, List.set_cons_zero, List.set_cons_succ])
    refine' wpAnyH_take (i := 6) (oi := _) (v := undef) ?hit7 ?hst7 ?hft7 ?hrt7 ?hQt7 ?hyt7 ?hSt7 ?_
    case hit7 => (simp only [List.getElem?_toArray, List.getElem?_cons_succ, List.getElem?_cons_zero]; rfl)
    case hst7 => kernel_rfl
    case hft7 => kernel_rfl
    case hrt7 => kernel_rfl
    case hQt7 => exact fun _ _ _ h => h
    case hSt7 => assumption
    case hyt7 =>
      exact Or.inr ⟨by rfl, rfl⟩
    (try simp only [Act.put, List.setIfInBounds_toArray, List.set_cons_zero, List.set_cons_succ])
    refine' wpAnyH_take (i := 7) (oi := _) (v := undef) ?hit8 ?hst8 ?hft8 ?hrt8 ?hQt8 ?hyt8 ?hSt8 ?_
    case hit8 => (simp only [List.getElem?_toArray, List.getElem?_cons_succ, List.getElem?_cons_zero]; rfl)
    case hst8 => kernel_rfl
    case hft8 => kernel_rfl
    case hrt8 => kernel_rfl
    case hQt8 => exact fun _ _ _ h => h
    case hSt8 => assumption
    case hyt8 =>
      exact Or.inr ⟨by rfl, rfl⟩
    (try simp only [Act.put, List.setIfInBounds_toArray, List.set_cons_zero, List.set_cons_succ])
    refine' wpAnyH_take (i := 8) (oi := _) (v := undef) ?hit9 ?hst9 ?hft9 ?hrt9 ?hQt9 ?hyt9 ?hSt9 ?_
    case hit9 => (simp only [List.getElem?_toArray, List.getElem?_cons_succ, List.getElem?_cons_zero]; rfl)
    case hst9 => kernel_rfl
    case hft9 => kernel_rfl
    case hrt9 => kernel_rfl
    case hQt9 => exact fun _ _ _ h => h
    case hSt9 => assumption
    case hyt9 =>
      exact Or.inr ⟨by rfl, rfl⟩
    (try simp only [Act.put, List.setIfInBounds_toArray, List.set_cons_zero, List.set_cons_succ])
    refine' wpAnyH_take (i := 9) (oi := _) (v := undef) ?hit10 ?hst10 ?hft10 ?hrt10 ?hQt10 ?hyt10 ?hSt10 ?_
    case hit10 => (simp only [List.getElem?_toArray, List.getElem?_cons_succ, List.getElem?_cons_zero]; rfl)
    case hst10 => kernel_rfl
    case hft10 => kernel_rfl
    case hrt10 => kernel_rfl
    case hQt10 => exact fun _ _ _ h => h
    case hSt10 => assumption
    case hyt10 =>
      exact Or.inr ⟨by rfl, rfl⟩
    (try simp only [Act.put, List.setIfInBounds_toArray, List.set_cons_zero, List.set_cons_succ])
    refine' wpAnyH_take (i := 10) (oi := _) (v := _) ?hit11 ?hst11 ?hft11 ?hrt11 ?hQt11 ?hyt11 ?hSt11 ?_
    case hit11 => (simp only [List.getElem?_toArray, List.getElem?_cons_succ, List.getElem?_cons_zero]; rfl)
    case hst11 => kernel_rfl
    case hft11 => kernel_rfl
    case hrt11 => kernel_rfl
    case hQt11 => exact fun _ _ _ h => h
    case hSt11 => assumption
    case hyt11 =>
      refine Or.inl ⟨by rfl, ?_⟩
      intro w hSw
      (try dsimp only at hSw)
      go_simp
      all_goals (with_reducible rfl)
    (try simp only [Act.put, List.setIfInBounds_toArray, List.set_cons_zero, List.set_cons_succ])
    refine' wpAnyH_take (i := 11) (oi := _) (v := _) ?hit12 ?hst12 ?hft12 ?hrt12 ?hQt12 ?hyt12 ?hSt12 ?_
    case hit12 => (simp only [List.getElem?_toArray, List.getElem?_cons_succ, List.getElem?_cons_zero]; rfl)
    case hst12 => kernel_rfl
    case hft12 => kernel_rfl
    case hrt12 => kernel_rfl
    case hQt12 => exact fun _ _ _ h => h
    case hSt12 => assumption
    case hyt12 =>
      refine Or.inl ⟨by rfl, ?_⟩
      intro w hSw
      (try dsimp only at hSw)
      go_simp
      all_goals (with_reducible rfl)
    (try simp only [Act.put, List.setIfInBounds_toArray, List.set_cons_zero, List.set_cons_succ])
    refine wpAnyH_done (by kernel_rfl) ?_ _
    clear hHeld
    go_wp2_with fail
    go_ret
    exact ⟨by rw [HM.out]; rfl, HB0.out⟩

theorem sfour (w : World) (a b c d : Array Value) (T : TypeId) : Blk ((((w.alloc (.cells a T)).alloc (.cells b T)).alloc (.cells c T)).alloc (.cells d T)) w.heap.size T a ∧ Blk ((((w.alloc (.cells a T)).alloc (.cells b T)).alloc (.cells c T)).alloc (.cells d T)) (w.heap.size + 1) T b ∧
    Blk ((((w.alloc (.cells a T)).alloc (.cells b T)).alloc (.cells c T)).alloc (.cells d T)) (w.heap.size + 1 + 1) T c ∧ Blk ((((w.alloc (.cells a T)).alloc (.cells b T)).alloc (.cells c T)).alloc (.cells d T)) (w.heap.size + 1 + 1 + 1) T d ∧ Below w.heap.size w ((((w.alloc (.cells a T)).alloc (.cells b T)).alloc (.cells c T)).alloc (.cells d T)) := by
  obtain ⟨b1, b2, b3, hb, hsz⟩ := sthree w a b c T T T
  refine ⟨b1.alloc _, b2.alloc _, b3.alloc _, ?_, hb.alloc hb.size _⟩
  have := Blk.new (((w.alloc (.cells a T)).alloc (.cells b T)).alloc (.cells c T)) T d
  rwa [show (((w.alloc (.cells a T)).alloc (.cells b T)).alloc (.cells c T)).heap.size = w.heap.size + 1 + 1 + 1 by simp] at this
theorem muladd_mod (a b c : Nat) : ((b % LL) * a % LL + c % LL) % LL = (a * b + c) % LL := by
  rw [← Nat.add_mod, Nat.add_mod, Nat.mul_mod, Nat.mod_mod, ← Nat.mul_mod, ← Nat.add_mod, Nat.mul_comm]

set_option maxHeartbeats 4000000 in
set_option maxRecDepth 100000 in
theorem smuladd_any (a b c : Nat) (w : World) (ha : a < 2 ^ 256) (hb : b < 2 ^ 256) (hc : c < 2 ^ 256) (hO : OrderAt w) :
    Calls Tryd.prog 12 #[.agg (bytesA (fbytes a)), .agg (bytesA (fbytes b)), .agg (bytesA (fbytes c))] w fun e w' => e = .returned (.agg (bytesA (fbytes ((a * b + c) % LL)))) ∧ Below w.heap.size w w' := by
  have rd : ∀ (v : Nat) (g : Nat) (V V' : World), Blk V g 24 (bytesA (fbytes v)) → Below V.heap.size V V' → Reads V' V'.heap.size 1 (some ⟨g, 0, none⟩) 32 (Lib.byteCells (fbytes v)) := fun v g V V' h hb => by
    have := reads_blk (h.old hb)
    rwa [fbytes_length] at this
  have hln : ∀ v, (fbytes v).length = 32 := fbytes_length
  obtain ⟨R, hR⟩ : ∃ x, Hid (x = bytesA (fbytes ((a * b + c) % LL))) := ⟨_, Lib.hid rfl⟩
  obtain ⟨z, hz⟩ : ∃ z, Hid (z = bytesA (List.replicate 32 0)) := ⟨_, Lib.hid rfl⟩
  have hz0 : ∀ W, (zeroValue 24).run Tryd.prog W = .ok (.agg z) W := by
    rw [hz.out]; exact (zero_of_info (n := 32) (by kernel_rfl)).1
  obtain ⟨r1, hr1⟩ : ∃ x, Hid (x = limS (b % LL)) := ⟨_, Lib.hid rfl⟩
  obtain ⟨r2, hr2⟩ : ∃ x, Hid (x = limS (b % LL * a % LL)) := ⟨_, Lib.hid rfl⟩
  obtain ⟨r3, hr3⟩ : ∃ x, Hid (x = limS (c % LL)) := ⟨_, Lib.hid rfl⟩
  obtain ⟨r4, hr4⟩ : ∃ x, Hid (x = limS ((a * b + c) % LL)) := ⟨_, Lib.hid rfl⟩
  obtain ⟨g1, hg1⟩ : ∃ g, Hid (g = w.heap.size) := ⟨_, Lib.hid rfl⟩
  have C1 : Hid (∀ g V, Reads V V.heap.size 1 (some ⟨g, 0, none⟩) 32 (Lib.byteCells (fbytes b)) → OrderAt V → Calls Tryd.prog 14 #[.slice (some ⟨g, 0, none⟩) 32 32] V fun e w' => e = .returned (.agg r1) ∧ Below V.heap.size V w') := Lib.hid fun g V hr ho => by
    have := srest_any _ 32 32 (fbytes b) (fbytes_length _) (by omega) V hr ho
    rwa [bval_fbytes hb, ← hr1.out] at this
  have C2 : Hid (∀ g V, Reads V V.heap.size 1 (some ⟨g, 0, none⟩) 32 (Lib.byteCells (fbytes a)) → OrderAt V → Calls Tryd.prog 18 #[.agg r1, .slice (some ⟨g, 0, none⟩) 32 32] V fun e w' => e = .returned (.agg r2) ∧ Below V.heap.size V w') := Lib.hid fun g V hr ho => by
    have := stimes_any (b % LL) (Nat.mod_lt _ LL_pos) _ 32 32 (fbytes a) (fbytes_length _) (by omega) V hr ho
    rwa [bval_fbytes ha, ← hr2.out, ← hr1.out] at this
  have C3 : Hid (∀ g V, Reads V V.heap.size 1 (some ⟨g, 0, none⟩) 32 (Lib.byteCells (fbytes c)) → OrderAt V → Calls Tryd.prog 14 #[.slice (some ⟨g, 0, none⟩) 32 32] V fun e w' => e = .returned (.agg r3) ∧ Below V.heap.size V w') := Lib.hid fun g V hr ho => by
    have := srest_any _ 32 32 (fbytes c) (fbytes_length _) (by omega) V hr ho
    rwa [bval_fbytes hc, ← hr3.out] at this
  have C4 : Hid (∀ V, OrderAt V → Calls Tryd.prog 19 #[.agg r2, .agg r3] V fun e w' => e = .returned (.agg r4) ∧ Below V.heap.size V w') := Lib.hid fun V ho => by
    have := sadd_any (b % LL * a % LL) (c % LL) (Nat.mod_lt _ LL_pos) (Nat.mod_lt _ LL_pos) V ho
    rwa [muladd_mod, ← hr2.out, ← hr3.out, ← hr4.out] at this
  have C5 : Hid (∀ V, Calls Tryd.prog 15 #[.agg r4] V fun e w' => e = .returned (.agg R) ∧ Below V.heap.size V w') := Lib.hid fun V => by
    rw [hr4.out, hR.out]; exact sbytes_any _ V
  rw [← hR.out]
  have oR : Hid ((Tryd.prog.info? 24).map (·.size) = some R.size) := by rw [hR.out]; exact Lib.hid (fbytes_info _)
  have pR : Hid (R.all (·.oneCell') = true) := by rw [hR.out]; exact Lib.hid (bytesA_one _)
  have zR : Hid (z.size = R.size) := by rw [hz.out, hR.out, bytesA_size, bytesA_size, fbytes_length]; exact Lib.hid rfl
  obtain ⟨ca, hca⟩ : ∃ x, Hid (x = bytesA (fbytes a)) := ⟨_, Lib.hid rfl⟩
  obtain ⟨cb, hcb⟩ : ∃ x, Hid (x = bytesA (fbytes b)) := ⟨_, Lib.hid rfl⟩
  obtain ⟨cc, hcc⟩ : ∃ x, Hid (x = bytesA (fbytes c)) := ⟨_, Lib.hid rfl⟩
  have hfour := sfour w ca cb cc z 24
  rw [← hca.out, ← hcb.out, ← hcc.out]
  have hsl0 := slice32 w.heap.size
  have hsl1 := slice32 (w.heap.size + 1)
  have hsl2 := slice32 (w.heap.size + 1 + 1)
  go_enter Tryd.func12, Tryd.ntmps12
  go_wp2_with fail
  generalize ((((w.alloc (.cells ca 24)).alloc (.cells cb 24)).alloc (.cells cc 24)).alloc (.cells z 24)) = W at *
  obtain ⟨b1, b2, b3, b4, hbW⟩ := hfour
  rw [hca.out] at b1
  rw [hcb.out] at b2
  rw [hcc.out] at b3
  have R1 : Hid (∀ V, Below W.heap.size W V → Reads V V.heap.size 1 (some ⟨w.heap.size, 0, none⟩) 32 (Lib.byteCells (fbytes a))) := Lib.hid fun V h => rd _ _ _ _ b1 h
  have R2 : Hid (∀ V, Below W.heap.size W V → Reads V V.heap.size 1 (some ⟨w.heap.size + 1, 0, none⟩) 32 (Lib.byteCells (fbytes b))) := Lib.hid fun V h => rd _ _ _ _ b2 h
  have R3 : Hid (∀ V, Below W.heap.size W V → Reads V V.heap.size 1 (some ⟨w.heap.size + 1 + 1, 0, none⟩) 32 (Lib.byteCells (fbytes c))) := Lib.hid fun V h => rd _ _ _ _ b3 h
  have B4 := Lib.hid b4
  have HBW := Lib.hid hbW
  have HQ : Hid (∀ V, Below W.heap.size W V → OrderAt V) := Lib.hid fun V h => (hO.old hbW).old h
  have HB0 := Lib.hid ((Below.refl W.heap.size W).drew)
  clear b1 b2 b3 b4 hbW hO rd hln ha hb hc hg1 g1
  refine wp_region_held_drew (S := fun V => ∃ V0, Below W.heap.size W V0 ∧ (V = V0 ∨ V = V0.setRow (w.heap.size + 1 + 1 + 1) R)) (by kernel_rfl) ⟨_, HB0.out, .inl rfl⟩ (fun hHeld => ?_)
  generalize W.drew = W0 at *
  refine' wpAnyH_take (i := 0) (oi := _) (v := _) ?hit13 ?hst13 ?hft13 ?hrt13 ?hQt13 ?hyt13 ?hSt13 ?_
  case hit13 => (simp only [List.getElem?_toArray, List.getElem?_cons_succ, List.getElem?_cons_zero]; rfl)
  case hst13 => kernel_rfl
  case hft13 => kernel_rfl
  case hrt13 => kernel_rfl
  case hQt13 => exact fun _ _ _ h => h
  case hSt13 => assumption
  case hyt13 =>
    refine Or.inl ⟨by rfl, ?_⟩
    intro w hSw
    (try dsimp only at hSw)
    go_simp
    all_goals (with_reducible rfl)
  (try simp only [Act.put, List.setIfInBounds_toArray, List.set_cons_zero, List.set_cons_succ])
  refine' wpAnyH_take (i := 2) (oi := _) (v := _) ?hit14 ?hst14 ?hft14 ?hrt14 ?hQt14 ?hyt14 ?hSt14 ?_
  case hit14 => (simp only [List.getElem?_toArray, List.getElem?_cons_succ, List.getElem?_cons_zero]; rfl)
  case hst14 => kernel_rfl
  case hft14 => kernel_rfl
  case hrt14 => kernel_rfl
  case hQt14 => exact fun _ _ _ h => h
  case hSt14 => assumption
  case hyt14 =>
    refine Or.inl ⟨by rfl, ?_⟩
    intro w hSw
    (try dsimp only at hSw)
    go_simp
    all_goals (with_reducible rfl)
  (try simp only [Act.put, List.setIfInBounds_toArray, List.set_cons_zero, List.set_cons_succ])
  refine' wpAnyH_take (i := 4) (oi := _) (v := _) ?hit15 ?hst15 ?hft15 ?hrt15 ?hQt15 ?hyt15 ?hSt15 ?_
  case hit15 => (simp only [List.getElem?_toArray, List.getElem?_cons_succ, List.getElem?_cons_zero]; rfl)
  case hst15 => kernel_rfl
  case hft15 => kernel_rfl
  case hrt15 => kernel_rfl
  case hQt15 => exact fun _ _ _ h => h
  case hSt15 => assumption
  case hyt15 =>
    refine Or.inl ⟨by rfl, ?_⟩
    intro w hSw
    (try dsimp only at hSw)
    go_simp
    all_goals (with_reducible rfl)
  (try simp only [Act.put, List.setIfInBounds_toArray, List.set_cons_zero, List.set_cons_succ])
  refine wpAnyH_ready (rs := [1]) (by kernel_rfl) (by simp) ?_
  refine' (AllReadyH.cons (o := _) ?hir16_1 (fun K hK => ?br16_1) AllReadyH.nil)
  case hir16_1 => (simp only [List.getElem?_toArray, List.getElem?_cons_succ, List.getElem?_cons_zero]; rfl)
  case br16_1 =>
    go_simp
    refine (C1.out _ _ (R2.out _ HB0.out) (HQ.out _ HB0.out)).mono ?_
    rintro e w17 ⟨rfl, hb17⟩
    have H17 := Lib.hid (HB0.out.trans (hb17.mono HB0.out.size))
    clear hb17
    go_wp2_with fail
    refine hK.out _ _ ?_ (fun hHeld => ?_)
    exact ⟨_, H17.out, .inl rfl⟩
    clear hK K
    (try simp only [Act.put, List.setIfInBounds_toArray, List.set_cons_zero, List.set_cons_succ])
    refine wpAnyH_ready (rs := [3]) (by kernel_rfl) (by simp) ?_
    refine' (AllReadyH.cons (o := _) ?hir18_3 (fun K hK => ?br18_3) AllReadyH.nil)
    case hir18_3 => (simp only [List.getElem?_toArray, List.getElem?_cons_succ, List.getElem?_cons_zero]; rfl)
    case br18_3 =>
      go_simp
      refine (C2.out _ _ (R1.out _ H17.out) (HQ.out _ H17.out)).mono ?_
      rintro e w19 ⟨rfl, hb19⟩
      have H19 := Lib.hid (H17.out.trans (hb19.mono H17.out.size))
      clear hb19
      go_wp2_with fail
      refine hK.out _ _ ?_ (fun hHeld => ?_)
      exact ⟨_, H19.out, .inl rfl⟩
      clear hK K
      (try simp only [Act.put, List.setIfInBounds_toArray, List.set_cons_zero, List.set_cons_succ])
      refine wpAnyH_ready (rs := [5]) (by kernel_rfl) (by simp) ?_
      refine' (AllReadyH.cons (o := _) ?hir20_5 (fun K hK => ?br20_5) AllReadyH.nil)
      case hir20_5 => (simp only [List.getElem?_toArray, List.getElem?_cons_succ, List.getElem?_cons_zero]; rfl)
      case br20_5 =>
        go_simp
        refine (C3.out _ _ (R3.out _ H19.out) (HQ.out _ H19.out)).mono ?_
        rintro e w21 ⟨rfl, hb21⟩
        have H21 := Lib.hid (H19.out.trans (hb21.mono H19.out.size))
        clear hb21
        go_wp2_with fail
        refine hK.out _ _ ?_ (fun hHeld => ?_)
        exact ⟨_, H21.out, .inl rfl⟩
        clear hK K
        (try simp only [Act.put, List.setIfInBounds_toArray, List.set_cons_zero, List.set_cons_succ])
        refine wpAnyH_ready (rs := [6]) (by kernel_rfl) (by simp) ?_
        refine' (AllReadyH.cons (o := _) ?hir22_6 (fun K hK => ?br22_6) AllReadyH.nil)
        case hir22_6 => (simp only [List.getElem?_toArray, List.getElem?_cons_succ, List.getElem?_cons_zero]; rfl)
        case br22_6 =>
          go_simp
          refine (C4.out _ (HQ.out _ H21.out)).mono ?_
          rintro e w23 ⟨rfl, hb23⟩
          have H23 := Lib.hid (H21.out.trans (hb23.mono H21.out.size))
          clear hb23
          go_wp2_with fail
          refine hK.out _ _ ?_ (fun hHeld => ?_)
          exact ⟨_, H23.out, .inl rfl⟩
          clear hK K
          (try simp only [Act.put, List.setIfInBounds_toArray, List.set_cons_zero, List.set_cons_succ])
          refine wpAnyH_ready (rs := [7]) (by kernel_rfl) (by simp) ?_
          refine' (AllReadyH.cons (o := _) ?hir24_7 (fun K hK => ?br24_7) AllReadyH.nil)
          case hir24_7 => (simp only [List.getElem?_toArray, List.getElem?_cons_succ, List.getElem?_cons_zero]; rfl)
          case br24_7 =>
            go_simp
            refine (C5.out _).mono ?_
            rintro e w25 ⟨rfl, hb25⟩
            have H25 := Lib.hid (H23.out.trans (hb25.mono H23.out.size))
            clear hb25
            go_wp2_with fail
            refine hK.out _ _ ?_ (fun hHeld => ?_)
            exact ⟨_, H25.out, .inl rfl⟩
            clear hK K
            (try simp only [Act.put, List.setIfInBounds_toArray, List.set_cons_zero, List.set_cons_succ])
            refine wpAnyH_ready (rs := [8]) (by kernel_rfl) (by simp) ?_
            refine' (AllReadyH.cons (o := _) ?hir26_8 (fun K hK => ?br26_8) AllReadyH.nil)
            case hir26_8 => (simp only [List.getElem?_toArray, List.getElem?_cons_succ, List.getElem?_cons_zero]; rfl)
            case br26_8 =>
              refine step_of_wp rfl ?_
              refine wp_store_row 24 (.tmp 6) (.tmp 14) rfl (w.heap.size + 1 + 1 + 1) R rfl rfl 24 z (B4.out.old H25.out) oR.out zR.out pR.out ?_
              refine hK.out _ _ ?_ (fun hHeld => ?_)
              exact ⟨_, H25.out, .inr rfl⟩
              clear hK K
              (try simp only [Act.put, List.setIfInBounds_toArray, List.set_cons_zero, List.set_cons_succ])
              refine wpAnyH_done (by kernel_rfl) ?_ _
              clear hHeld
              go_wp2_with fail
              have B5 := (B4.out.old H25.out).row R
              refine bodyPost_ret (v := .agg R) ?_ rfl ⟨rfl, below_row (HBW.out.trans (H25.out.mono HBW.out.size)) (by omega) _⟩
              exact results_cell_row Tryd.results12 _ _ (w.heap.size + 1 + 1 + 1) 24 R (0, 0) _ rfl B5 Tryd.underlying24 rfl oR.out

theorem sca_ok : ScaOk OrderAt where
  old := fun h hb => h.old hb
  reduce := fun A n c l w hn _ _ hr hq => sreduce_any A n c l (by have := hr.1; rw [Lib.byteCells_length] at this; omega) (by omega) w hr hq
  may := fun A n c l w hn _ _ hr hq => smay_any A n c l w hn hr hq
  muladd := fun a b c w ha hb hc hq => smuladd_any a b c w ha hb hc hq
end Go.Proofs.YtebnkbeejkopaaaDoor
