/-
  The contracts of scalar's rest, Reduce, May and MulAdd: the program's numbers modulo L are as they must be. Condition: L stands in its variable.
-/
import Derived.Test.YtjiadbaaggifpaaDoorM5
import Derived.Laws.Cover3
set_option linter.unusedVariables false
set_option linter.unusedSimpArgs false
namespace Go.Proofs.YtjiadbaaggifpaaDoor
open Go Go.Proofs Go.RowKit F5

theorem sarr32 (p : Option Addr) (n c : Nat) (hn : 32 ≤ n) (W : World) : (Instr.arrayAt 40 (.slice p n c)).run Tryd.prog W = .ok (.pointer p) W := run_arrayAt W _ _ 32 p n c Tryd.underlying40 hn
theorem srun_loadVar_add {P : Program} (w : World) (ad : Addr) (t e : TypeId) (n : Nat) (cs : Array Value) (hu : P.underlying t = some (.array n e)) (hi : (P.info? t).map (·.size) = some cs.size)
    (hc : ∀ j v, cs[j]? = some v → w.cell? (ad.add j) = some v) : (loadVar t ad).run P w = .ok (.agg cs) w := by
  have hl : (loadCells ad cs.toList.length).run P w = .ok cs.toList.toArray w := run_loadCells_list (P := P) w ad cs.toList (fun j v hv => hc j v (by simpa using hv))
  cases hq : P.info? t with
  | none => simp [hq] at hi
  | some i =>
    have hs : i.size = cs.size := by simpa [hq] using hi
    have hagg : (isAgg t).run P w = .ok true w := by
      unfold isAgg
      rw [Sem.run_bind, run_underlying hu w]
      simp [Result.andThen]
    simp only [Array.length_toList, Array.toArray_toList] at hl
    simp [loadVar, Sem.run_bind, hagg, sizeOf, typeInfo, hq, hs, hl, Result.andThen]
theorem squiet_load_add {P : Program} {o : Oper} {ev : Operand → Value} {w : World} (t : TypeId) (x : Operand) (ad : Addr) (hx : ev x = .pointer (some ad)) (e : TypeId) (n : Nat) (cs : Array Value)
    (hu : P.underlying t = some (.array n e)) (hi : (P.info? t).map (·.size) = some cs.size) (hc : ∀ j v, cs[j]? = some v → w.cell? (ad.add j) = some v) (ho : o.op = .load t x) : (execOp ev o).run P w = .ok (.value (.agg cs)) w := by
  unfold execOp
  simp only [ho, hx, Instr.loadAt, Instr.sureAddr, Sem.run_bind, Sem.run_pure, Result.andThen_ok, srun_loadVar_add w ad t e n cs hu hi hc]

theorem built_limS0 : Tryd.prog.built 82 [(0, .int .u64 1)] = some (u64s [1, 0, 0, 0]) := by kernel_rfl
theorem built_limS : Tryd.prog.built 82 [(0, .int .u64 1)] = some (limS 1) := by
  have e : digs M 1 4 = [1, 0, 0, 0] := by decide +kernel
  rw [limS, e]; exact built_limS0

set_option maxHeartbeats 2000000 in
set_option maxRecDepth 100000 in
theorem srest_any (A : Option Addr) (len cap : Nat) (l : List UInt8) (hlen : l.length = len) (hmax : len ≤ 140737488351232) (w : World) (hr : Reads w w.heap.size 1 A len (Lib.byteCells l)) (hO : OrderAt w) :
    Calls Tryd.prog 52 #[.slice A len cap] w fun e w' => e = .returned (.agg (limS (bval l % LL))) ∧ Below w.heap.size w w' := by
  obtain ⟨R, hR⟩ : ∃ c, Hid (c = limS (bval l % LL)) := ⟨_, Lib.hid rfl⟩
  obtain ⟨o1, ho1⟩ : ∃ c, Hid (c = limS 1) := ⟨_, Lib.hid rfl⟩
  have hbl := built_limS
  rw [← ho1.out] at hbl
  have HBL := Lib.hid hbl
  have CT : Hid (∀ V, Reads V V.heap.size 1 A len (Lib.byteCells l) → OrderAt V → Calls Tryd.prog 55 #[.agg o1, .slice A len cap] V fun e w' => e = .returned (.agg R) ∧ Below V.heap.size V w') := Lib.hid fun V hV hq => by
    have h := stimes_any 1 (by decide) A len cap l hlen hmax V hV hq
    rw [Nat.one_mul] at h
    rwa [hR.out, ho1.out]
  rw [← hR.out]
  have oR : Hid ((Tryd.prog.info? 82).map (·.size) = some R.size) := by rw [hR.out]; exact Lib.hid (limS_info _)
  have pR : Hid (R.all (·.oneCell') = true) := by rw [hR.out]; exact Lib.hid (limS_one _)
  have zR : Hid (zeros4.size = R.size) := by rw [hR.out, limS_size]; exact Lib.hid rfl
  have hb1 := (Below.refl w.heap.size w).alloc (Nat.le_refl _) (.cells zeros4 82)
  have HR := Lib.hid ((hr.below hb1).more hb1.size)
  have HO := Lib.hid (hO.old hb1)
  have HB1 := Lib.hid hb1
  have B1 := Lib.hid (Blk.new w 82 zeros4)
  clear hbl hr hO hb1
  go_enter Tryd.func52, Tryd.ntmps52
  go_wp2_with (refine wpList_build_to rfl 82 #[(0, .const (.int .u64 1))] rfl [(0, .int .u64 1)] (by simp [Act.eval, Act.put]) o1 HBL.out ?_)
  refine (CT.out _ HR.out HO.out).mono ?_
  rintro e w2 ⟨rfl, hb2⟩
  have B2 := Lib.hid (B1.out.old hb2)
  have HB2 := Lib.hid (HB1.out.trans (hb2.mono HB1.out.size))
  clear hb2
  go_wp2_with (refine wpList_store_row rfl 82 (.tmp 2) (.tmp 5) rfl w.heap.size R rfl rfl 82 _ B2.out oR.out zR.out pR.out ?_)
  refine bodyPost_ret (v := .agg R) ?_ rfl ⟨rfl, below_row HB2.out (Nat.le_refl _) _⟩
  exact results_cell_row Tryd.results52 _ _ w.heap.size 82 R (0, 0) _ rfl (B2.out.row R) Tryd.underlying82 rfl oR.out

theorem zeros32 : Hid ((bytesA (List.replicate 32 0)).size = (bytesA (fbytes 0)).size) := Lib.hid (by rw [bytesA_size, bytesA_size, fbytes_length]; rfl)

set_option maxHeartbeats 2000000 in
set_option maxRecDepth 100000 in
theorem sreduce_any (A : Option Addr) (len cap : Nat) (l : List UInt8) (hlen : l.length = len) (hmax : len ≤ 140737488351232) (w : World) (hr : Reads w w.heap.size 1 A len (Lib.byteCells l)) (hO : OrderAt w) :
    Calls Tryd.prog 25 #[.slice A len cap] w fun e w' => e = .returned (.agg (bytesA (fbytes (bval l % LL)))) ∧ Below w.heap.size w w' := by
  obtain ⟨R, hR⟩ : ∃ c, Hid (c = bytesA (fbytes (bval l % LL))) := ⟨_, Lib.hid rfl⟩
  obtain ⟨r1, hr1⟩ : ∃ c, Hid (c = limS (bval l % LL)) := ⟨_, Lib.hid rfl⟩
  obtain ⟨z, hz⟩ : ∃ z, Hid (z = bytesA (List.replicate 32 0)) := ⟨_, Lib.hid rfl⟩
  have hz0 : ∀ W, (zeroValue 40).run Tryd.prog W = .ok (.agg z) W := by
    rw [hz.out]; exact (zero_of_info (n := 32) (by kernel_rfl)).1
  have CR : Hid (∀ V, Reads V V.heap.size 1 A len (Lib.byteCells l) → OrderAt V → Calls Tryd.prog 52 #[.slice A len cap] V fun e w' => e = .returned (.agg r1) ∧ Below V.heap.size V w') := Lib.hid fun V hV hq => by
    rw [hr1.out]; exact srest_any A len cap l hlen hmax V hV hq
  have CB : Hid (∀ V, Calls Tryd.prog 53 #[.agg r1] V fun e w' => e = .returned (.agg R) ∧ Below V.heap.size V w') := Lib.hid fun V => by
    rw [hr1.out, hR.out]; exact sbytes_any _ V
  rw [← hR.out]
  have oR : Hid ((Tryd.prog.info? 40).map (·.size) = some R.size) := by rw [hR.out]; exact Lib.hid (fbytes_info _)
  have pR : Hid (R.all (·.oneCell') = true) := by rw [hR.out]; exact Lib.hid (bytesA_one _)
  have zR : Hid (z.size = R.size) := by rw [hz.out, hR.out, bytesA_size, bytesA_size, fbytes_length]; exact Lib.hid rfl
  have hb1 := (Below.refl w.heap.size w).alloc (Nat.le_refl _) (.cells z 40)
  have HR := Lib.hid ((hr.below hb1).more hb1.size)
  have HO := Lib.hid (hO.old hb1)
  have HB1 := Lib.hid hb1
  have B1 := Lib.hid (Blk.new w 40 z)
  clear hr hO hb1
  go_enter Tryd.func25, Tryd.ntmps25
  go_wp2_with fail
  refine (CR.out _ HR.out HO.out).mono ?_
  rintro e w2 ⟨rfl, hb2⟩
  have B2 := Lib.hid (B1.out.old hb2)
  have HB2 := Lib.hid (HB1.out.trans (hb2.mono HB1.out.size))
  clear hb2
  go_wp2_with fail
  refine (CB.out _).mono ?_
  rintro e w3 ⟨rfl, hb3⟩
  have B3 := Lib.hid (B2.out.old hb3)
  have HB3 := Lib.hid (HB2.out.trans (hb3.mono HB2.out.size))
  clear hb3
  go_wp2_with (refine wpList_store_row rfl 40 (.tmp 2) (.tmp 5) rfl w.heap.size R rfl rfl 40 _ B3.out oR.out zR.out pR.out ?_)
  refine bodyPost_ret (v := .agg R) ?_ rfl ⟨rfl, below_row HB3.out (Nat.le_refl _) _⟩
  exact results_cell_row Tryd.results25 _ _ w.heap.size 40 R (0, 0) _ rfl (B3.out.row R) Tryd.underlying40 rfl oR.out

theorem sfour (w : World) (a b c d : Array Value) (T : TypeId) : Blk ((((w.alloc (.cells a T)).alloc (.cells b T)).alloc (.cells c T)).alloc (.cells d T)) w.heap.size T a ∧ Blk ((((w.alloc (.cells a T)).alloc (.cells b T)).alloc (.cells c T)).alloc (.cells d T)) (w.heap.size + 1) T b ∧
    Blk ((((w.alloc (.cells a T)).alloc (.cells b T)).alloc (.cells c T)).alloc (.cells d T)) (w.heap.size + 1 + 1) T c ∧ Blk ((((w.alloc (.cells a T)).alloc (.cells b T)).alloc (.cells c T)).alloc (.cells d T)) (w.heap.size + 1 + 1 + 1) T d ∧ Below w.heap.size w ((((w.alloc (.cells a T)).alloc (.cells b T)).alloc (.cells c T)).alloc (.cells d T)) := by
  obtain ⟨b1, b2, b3, hb, hsz⟩ := sthree w a b c T T T
  refine ⟨b1.alloc _, b2.alloc _, b3.alloc _, ?_, hb.alloc hb.size _⟩
  have := Blk.new (((w.alloc (.cells a T)).alloc (.cells b T)).alloc (.cells c T)) T d
  rwa [show (((w.alloc (.cells a T)).alloc (.cells b T)).alloc (.cells c T)).heap.size = w.heap.size + 1 + 1 + 1 by simp] at this
theorem muladd_mod (a b c : Nat) : ((b % LL) * a % LL + c % LL) % LL = (a * b + c) % LL := by
  rw [← Nat.add_mod, Nat.add_mod, Nat.mul_mod, Nat.mod_mod, ← Nat.mul_mod, ← Nat.add_mod, Nat.mul_comm]

set_option maxHeartbeats 4000000 in
set_option maxRecDepth 100000 in
theorem smuladd_any (a b c : Nat) (w : World) (ha : a < 2 ^ 256) (hb : b < 2 ^ 256) (hc : c < 2 ^ 256) (hO : OrderAt w) :
    Calls Tryd.prog 27 #[.agg (bytesA (fbytes a)), .agg (bytesA (fbytes b)), .agg (bytesA (fbytes c))] w fun e w' => e = .returned (.agg (bytesA (fbytes ((a * b + c) % LL)))) ∧ Below w.heap.size w w' := by
  have rd : ∀ (v : Nat) (g : Nat) (V V' : World), Blk V g 40 (bytesA (fbytes v)) → Below V.heap.size V V' → Reads V' V'.heap.size 1 (some ⟨g, 0, none⟩) 32 (Lib.byteCells (fbytes v)) := fun v g V V' h hb => by
    have := reads_blk (h.old hb)
    rwa [fbytes_length] at this
  have hln : ∀ v, (fbytes v).length = 32 := fbytes_length
  obtain ⟨R, hR⟩ : ∃ x, Hid (x = bytesA (fbytes ((a * b + c) % LL))) := ⟨_, Lib.hid rfl⟩
  obtain ⟨z, hz⟩ : ∃ z, Hid (z = bytesA (List.replicate 32 0)) := ⟨_, Lib.hid rfl⟩
  have hz0 : ∀ W, (zeroValue 40).run Tryd.prog W = .ok (.agg z) W := by
    rw [hz.out]; exact (zero_of_info (n := 32) (by kernel_rfl)).1
  obtain ⟨r1, hr1⟩ : ∃ x, Hid (x = limS (b % LL)) := ⟨_, Lib.hid rfl⟩
  obtain ⟨r2, hr2⟩ : ∃ x, Hid (x = limS (b % LL * a % LL)) := ⟨_, Lib.hid rfl⟩
  obtain ⟨r3, hr3⟩ : ∃ x, Hid (x = limS (c % LL)) := ⟨_, Lib.hid rfl⟩
  obtain ⟨r4, hr4⟩ : ∃ x, Hid (x = limS ((a * b + c) % LL)) := ⟨_, Lib.hid rfl⟩
  obtain ⟨g1, hg1⟩ : ∃ g, Hid (g = w.heap.size) := ⟨_, Lib.hid rfl⟩
  have C1 : Hid (∀ g V, Reads V V.heap.size 1 (some ⟨g, 0, none⟩) 32 (Lib.byteCells (fbytes b)) → OrderAt V → Calls Tryd.prog 52 #[.slice (some ⟨g, 0, none⟩) 32 32] V fun e w' => e = .returned (.agg r1) ∧ Below V.heap.size V w') := Lib.hid fun g V hr ho => by
    have := srest_any _ 32 32 (fbytes b) (fbytes_length _) (by omega) V hr ho
    rwa [bval_fbytes hb, ← hr1.out] at this
  have C2 : Hid (∀ g V, Reads V V.heap.size 1 (some ⟨g, 0, none⟩) 32 (Lib.byteCells (fbytes a)) → OrderAt V → Calls Tryd.prog 55 #[.agg r1, .slice (some ⟨g, 0, none⟩) 32 32] V fun e w' => e = .returned (.agg r2) ∧ Below V.heap.size V w') := Lib.hid fun g V hr ho => by
    have := stimes_any (b % LL) (Nat.mod_lt _ LL_pos) _ 32 32 (fbytes a) (fbytes_length _) (by omega) V hr ho
    rwa [bval_fbytes ha, ← hr2.out, ← hr1.out] at this
  have C3 : Hid (∀ g V, Reads V V.heap.size 1 (some ⟨g, 0, none⟩) 32 (Lib.byteCells (fbytes c)) → OrderAt V → Calls Tryd.prog 52 #[.slice (some ⟨g, 0, none⟩) 32 32] V fun e w' => e = .returned (.agg r3) ∧ Below V.heap.size V w') := Lib.hid fun g V hr ho => by
    have := srest_any _ 32 32 (fbytes c) (fbytes_length _) (by omega) V hr ho
    rwa [bval_fbytes hc, ← hr3.out] at this
  have C4 : Hid (∀ V, OrderAt V → Calls Tryd.prog 56 #[.agg r2, .agg r3] V fun e w' => e = .returned (.agg r4) ∧ Below V.heap.size V w') := Lib.hid fun V ho => by
    have := sadd_any (b % LL * a % LL) (c % LL) (Nat.mod_lt _ LL_pos) (Nat.mod_lt _ LL_pos) V ho
    rwa [muladd_mod, ← hr2.out, ← hr3.out, ← hr4.out] at this
  have C5 : Hid (∀ V, Calls Tryd.prog 53 #[.agg r4] V fun e w' => e = .returned (.agg R) ∧ Below V.heap.size V w') := Lib.hid fun V => by
    rw [hr4.out, hR.out]; exact sbytes_any _ V
  rw [← hR.out]
  have oR : Hid ((Tryd.prog.info? 40).map (·.size) = some R.size) := by rw [hR.out]; exact Lib.hid (fbytes_info _)
  have pR : Hid (R.all (·.oneCell') = true) := by rw [hR.out]; exact Lib.hid (bytesA_one _)
  have zR : Hid (z.size = R.size) := by rw [hz.out, hR.out, bytesA_size, bytesA_size, fbytes_length]; exact Lib.hid rfl
  obtain ⟨ca, hca⟩ : ∃ x, Hid (x = bytesA (fbytes a)) := ⟨_, Lib.hid rfl⟩
  obtain ⟨cb, hcb⟩ : ∃ x, Hid (x = bytesA (fbytes b)) := ⟨_, Lib.hid rfl⟩
  obtain ⟨cc, hcc⟩ : ∃ x, Hid (x = bytesA (fbytes c)) := ⟨_, Lib.hid rfl⟩
  have hfour := sfour w ca cb cc z 40
  rw [← hca.out, ← hcb.out, ← hcc.out]
  have hsl0 := slice32 w.heap.size
  have hsl1 := slice32 (w.heap.size + 1)
  have hsl2 := slice32 (w.heap.size + 1 + 1)
  go_enter Tryd.func27, Tryd.ntmps27
  go_wp2_with fail
  generalize ((((w.alloc (.cells ca 40)).alloc (.cells cb 40)).alloc (.cells cc 40)).alloc (.cells z 40)) = W at *
  obtain ⟨b1, b2, b3, b4, hbW⟩ := hfour
  rw [hca.out] at b1
  rw [hcb.out] at b2
  rw [hcc.out] at b3
  have R1 : Hid (∀ V, Below W.heap.size W V → Reads V V.heap.size 1 (some ⟨w.heap.size, 0, none⟩) 32 (Lib.byteCells (fbytes a))) := Lib.hid fun V h => rd _ _ _ _ b1 h
  have R2 : Hid (∀ V, Below W.heap.size W V → Reads V V.heap.size 1 (some ⟨w.heap.size + 1, 0, none⟩) 32 (Lib.byteCells (fbytes b))) := Lib.hid fun V h => rd _ _ _ _ b2 h
  have R3 : Hid (∀ V, Below W.heap.size W V → Reads V V.heap.size 1 (some ⟨w.heap.size + 1 + 1, 0, none⟩) 32 (Lib.byteCells (fbytes c))) := Lib.hid fun V h => rd _ _ _ _ b3 h
  have B4 := Lib.hid b4
  have HBW := Lib.hid hbW
  have HQ : Hid (∀ V, Below W.heap.size W V → OrderAt V) := Lib.hid fun V h => (hO.old hbW).old h
  have HB0 := Lib.hid ((Below.refl W.heap.size W).drew)
  clear b1 b2 b3 b4 hbW hO rd hln ha hb hc hg1 g1
  refine wp_region_held_drew (S := fun V => ∃ V0, Below W.heap.size W V0 ∧ (V = V0 ∨ V = V0.setRow (w.heap.size + 1 + 1 + 1) R)) (by kernel_rfl) ⟨_, HB0.out, .inl rfl⟩ (fun hHeld => ?_)
  generalize W.drew = W0 at *
  refine' wpAnyH_take (i := 0) (oi := _) (v := _) ?hit13 ?hst13 ?hft13 ?hrt13 ?hQt13 ?hyt13 ?hSt13 ?_
  case hit13 => (simp only [List.getElem?_toArray, List.getElem?_cons_succ, List.getElem?_cons_zero]; rfl)
  case hst13 => kernel_rfl
  case hft13 => kernel_rfl
  case hrt13 => kernel_rfl
  case hQt13 => exact fun _ _ _ h => h
  case hSt13 => assumption
  case hyt13 =>
    refine Or.inl ⟨by rfl, ?_⟩
    intro w hSw
    (try dsimp only at hSw)
    go_simp
    all_goals (with_reducible rfl)
  (try simp only [Act.put, List.setIfInBounds_toArray, List.set_cons_zero, List.set_cons_succ])
  refine' wpAnyH_take (i := 2) (oi := _) (v := _) ?hit14 ?hst14 ?hft14 ?hrt14 ?hQt14 ?hyt14 ?hSt14 ?_
  case hit14 => (simp only [List.getElem?_toArray, List.getElem?_cons_succ, List.getElem?_cons_zero]; rfl)
  case hst14 => kernel_rfl
  case hft14 => kernel_rfl
  case hrt14 => kernel_rfl
  case hQt14 => exact fun _ _ _ h => h
  case hSt14 => assumption
  case hyt14 =>
    refine Or.inl ⟨by rfl, ?_⟩
    intro w hSw
    (try dsimp only at hSw)
    go_simp
    all_goals (with_reducible rfl)
  (try simp only [Act.put, List.setIfInBounds_toArray, List.set_cons_zero, List.set_cons_succ])
  refine' wpAnyH_take (i := 4) (oi := _) (v := _) ?hit15 ?hst15 ?hft15 ?hrt15 ?hQt15 ?hyt15 ?hSt15 ?_
  case hit15 => (simp only [List.getElem?_toArray, List.getElem?_cons_succ, List.getElem?_cons_zero]; rfl)
  case hst15 => kernel_rfl
  case hft15 => kernel_rfl
  case hrt15 => kernel_rfl
  case hQt15 => exact fun _ _ _ h => h
  case hSt15 => assumption
  case hyt15 =>
    refine Or.inl ⟨by rfl, ?_⟩
    intro w hSw
    (try dsimp only at hSw)
    go_simp
    all_goals (with_reducible rfl)
  (try simp only [Act.put, List.setIfInBounds_toArray, List.set_cons_zero, List.set_cons_succ])
  refine wpAnyH_ready (rs := [1]) (by kernel_rfl) (by simp) ?_
  refine' (AllReadyH.cons (o := _) ?hir16_1 (fun K hK => ?br16_1) AllReadyH.nil)
  case hir16_1 => (simp only [List.getElem?_toArray, List.getElem?_cons_succ, List.getElem?_cons_zero]; rfl)
  case br16_1 =>
    go_simp
    refine (C1.out _ _ (R2.out _ HB0.out) (HQ.out _ HB0.out)).mono ?_
    rintro e w17 ⟨rfl, hb17⟩
    have H17 := Lib.hid (HB0.out.trans (hb17.mono HB0.out.size))
    clear hb17
    go_wp2_with fail
    refine hK.out _ _ ?_ (fun hHeld => ?_)
    exact ⟨_, H17.out, .inl rfl⟩
    clear hK K
    (try simp only [Act.put, List.setIfInBounds_toArray, List.set_cons_zero, List.set_cons_succ])
    refine wpAnyH_ready (rs := [3]) (by kernel_rfl) (by simp) ?_
    refine' (AllReadyH.cons (o := _) ?hir18_3 (fun K hK => ?br18_3) AllReadyH.nil)
    case hir18_3 => (simp only [List.getElem?_toArray, List.getElem?_cons_succ, List.getElem?_cons_zero]; rfl)
    case br18_3 =>
      go_simp
      refine (C2.out _ _ (R1.out _ H17.out) (HQ.out _ H17.out)).mono ?_
      rintro e w19 ⟨rfl, hb19⟩
      have H19 := Lib.hid (H17.out.trans (hb19.mono H17.out.size))
      clear hb19
      go_wp2_with fail
      refine hK.out _ _ ?_ (fun hHeld => ?_)
      exact ⟨_, H19.out, .inl rfl⟩
      clear hK K
      (try simp only [Act.put, List.setIfInBounds_toArray, List.set_cons_zero, List.set_cons_succ])
      refine wpAnyH_ready (rs := [5]) (by kernel_rfl) (by simp) ?_
      refine' (AllReadyH.cons (o := _) ?hir20_5 (fun K hK => ?br20_5) AllReadyH.nil)
      case hir20_5 => (simp only [List.getElem?_toArray, List.getElem?_cons_succ, List.getElem?_cons_zero]; rfl)
      case br20_5 =>
        go_simp
        refine (C3.out _ _ (R3.out _ H19.out) (HQ.out _ H19.out)).mono ?_
        rintro e w21 ⟨rfl, hb21⟩
        have H21 := Lib.hid (H19.out.trans (hb21.mono H19.out.size))
        clear hb21
        go_wp2_with fail
        refine hK.out _ _ ?_ (fun hHeld => ?_)
        exact ⟨_, H21.out, .inl rfl⟩
        clear hK K
        (try simp only [Act.put, List.setIfInBounds_toArray, List.set_cons_zero, List.set_cons_succ])
        refine wpAnyH_ready (rs := [6]) (by kernel_rfl) (by simp) ?_
        refine' (AllReadyH.cons (o := _) ?hir22_6 (fun K hK => ?br22_6) AllReadyH.nil)
        case hir22_6 => (simp only [List.getElem?_toArray, List.getElem?_cons_succ, List.getElem?_cons_zero]; rfl)
        case br22_6 =>
          go_simp
          refine (C4.out _ (HQ.out _ H21.out)).mono ?_
          rintro e w23 ⟨rfl, hb23⟩
          have H23 := Lib.hid (H21.out.trans (hb23.mono H21.out.size))
          clear hb23
          go_wp2_with fail
          refine hK.out _ _ ?_ (fun hHeld => ?_)
          exact ⟨_, H23.out, .inl rfl⟩
          clear hK K
          (try simp only [Act.put, List.setIfInBounds_toArray, List.set_cons_zero, List.set_cons_succ])
          refine wpAnyH_ready (rs := [7]) (by kernel_rfl) (by simp) ?_
          refine' (AllReadyH.cons (o := _) ?hir24_7 (fun K hK => ?br24_7) AllReadyH.nil)
          case hir24_7 => (simp only [List.getElem?_toArray, List.getElem?_cons_succ, List.getElem?_cons_zero]; rfl)
          case br24_7 =>
            go_simp
            refine (C5.out _).mono ?_
            rintro e w25 ⟨rfl, hb25⟩
            have H25 := Lib.hid (H23.out.trans (hb25.mono H23.out.size))
            clear hb25
            go_wp2_with fail
            refine hK.out _ _ ?_ (fun hHeld => ?_)
            exact ⟨_, H25.out, .inl rfl⟩
            clear hK K
            (try simp only [Act.put, List.setIfInBounds_toArray, List.set_cons_zero, List.set_cons_succ])
            refine wpAnyH_ready (rs := [8]) (by kernel_rfl) (by simp) ?_
            refine' (AllReadyH.cons (o := _) ?hir26_8 (fun K hK => ?br26_8) AllReadyH.nil)
            case hir26_8 => (simp only [List.getElem?_toArray, List.getElem?_cons_succ, List.getElem?_cons_zero]; rfl)
            case br26_8 =>
              refine step_of_wp rfl ?_
              refine wp_store_row 40 (.tmp 6) (.tmp 14) rfl (w.heap.size + 1 + 1 + 1) R rfl rfl 40 z (B4.out.old H25.out) oR.out zR.out pR.out ?_
              refine hK.out _ _ ?_ (fun hHeld => ?_)
              exact ⟨_, H25.out, .inr rfl⟩
              clear hK K
              (try simp only [Act.put, List.setIfInBounds_toArray, List.set_cons_zero, List.set_cons_succ])
              refine wpAnyH_done (by kernel_rfl) ?_ _
              clear hHeld
              go_wp2_with fail
              have B5 := (B4.out.old H25.out).row R
              refine bodyPost_ret (v := .agg R) ?_ rfl ⟨rfl, below_row (HBW.out.trans (H25.out.mono HBW.out.size)) (by omega) _⟩
              exact results_cell_row Tryd.results27 _ _ (w.heap.size + 1 + 1 + 1) 40 R (0, 0) _ rfl B5 Tryd.underlying40 rfl oR.out

theorem sca_ok : ScaOk OrderAt where
  old := fun h hb => h.old hb
  reduce := fun A n c l w hn _ _ hr hq => sreduce_any A n c l (by have := hr.1; rw [Lib.byteCells_length] at this; omega) (by omega) w hr hq
  muladd := fun a b c w ha hb hc hq => smuladd_any a b c w ha hb hc hq
end Go.Proofs.YtjiadbaaggifpaaDoor
