/-
  The contract of the reference's Raw. Condition: 32 bytes are read.
-/
import Derived.Test.YtphlehinjooncaaDoorFldRef1
import Derived.Deep.RegionWith
import Derived.Laws.ResultCell
set_option linter.unusedVariables false
set_option linter.unusedSimpArgs false
namespace Go.Proofs.YtphlehinjooncaaDoor
open Go Go.Proofs Go.RowKit F5

theorem quiet_load_row {P : Program} {o : Oper} {ev : Operand → Value} {w : World} (ty : TypeId) (x : Operand)
    (g : Nat) (hx : ev x = .pointer (some ⟨g, 0, none⟩)) (t : TypeId) (cs : Array Value) (d : TypeDesc) (hg : Blk w g t cs)
    (hu : P.underlying ty = some d) (hd : (match d with | .struct _ | .array _ _ => true | _ => false) = true) (hi : (P.info? ty).map (·.size) = some cs.size) (ho : o.op = .load ty x) :
    (execOp ev o).run P w = .ok (.value (.agg cs)) w := by
  unfold execOp
  simp only [ho, hx, Instr.loadAt, Instr.sureAddr, Sem.run_bind, Sem.run_pure, Result.andThen_ok, run_loadVar_row w g t ty cs (0, 0) d hg hu hd hi]
theorem step_of_wp {P : Program} {ops : Array Oper} {o : Oper} {a : Act} {K : Act → World → Prop} {Q : Exit → Act → World → Prop} {E : Prop} {w : World} (hgd : o.guard = none) (h : Oper.wp P o a w K Q) :
    if Region.wanted o (yielded ops a.tmps) = true then Oper.wp P o a w K Q else E := by
  have hw : Region.wanted o (yielded ops a.tmps) = true := by simp [Region.wanted, hgd]
  rw [if_pos hw]
  exact h
/-- == of two elements of the reference. -/
theorem quiet_eq_F {o : Oper} {ev : Operand → Value} (w : World) (x y : Operand) (k : TypeId) (l l' : List Nat) (hl : l.length = 16) (hl' : l'.length = 16) (hx : ev x = .agg (u64s l)) (hy : ev y = .agg (u64s l'))
    (ho : o.op = .binOp .eql 35 x y k) : (execOp ev o).run Tryd.prog w = .ok (.value (.bool (decide (l = l')))) w := by
  have hg : (eqGuard .eql 35 x y (.agg (u64s l)) (.agg (u64s l'))).run Tryd.prog w = .ok () w := run_eqGuard_agg w .eql _ x y _ _ (by kernel_rfl)
  unfold execOp
  simp only [ho, hx, hy, Sem.run_bind, hg, Result.andThen_ok, run_eql_u64s (i := default) Tryd.underlying35 l l' hl hl' w, Sem.run_pure]

theorem results_row_tmp {fn : Func} {p u : Tmp} {ty : TypeId} {P : Program} (h : fn.results = #[.cell p ty, .tmp u]) (tmps : Array Value) (w : World) (g : Nat) (t : TypeId) (cs : Array Value) (v : Value) (e : TypeId) (n : Nat)
    (hp : tmps.getD p undef = .pointer (some ⟨g, 0, none⟩)) (hv : tmps.getD u undef = v) (hg : Blk w g t cs) (hu : P.underlying ty = some (.array n e)) (hi : (P.info? ty).map (·.size) = some cs.size) :
    (results fn tmps).run P w = .ok (.tuple #[.agg cs, v]) w := by
  rw [results_cell_tmp h, hp, hv]
  have hl := run_loadVar_row w g t ty cs (0, 0) _ hg hu rfl hi
  simp [asAddr, Result.andThen, hl]
theorem digs_eq {n m : Nat} (hn : n < 2 ^ 256) (hm : m < 2 ^ 256) : digs B n 16 = digs B m 16 ↔ n = m := ⟨fun h => digs_inj h (show n < B ^ 16 from hn) (show m < B ^ 16 from hm), fun h => by rw [h]⟩
theorem digs_small (n : Nat) : Small (digs B n 16) := fun j => Nat.le_of_lt (Nat.lt_trans ((digs_all (by decide) n 16 : All B _).getD (by decide) j) (by decide))
theorem digs_val16 {n : Nat} (h : n < 2 ^ 256) : val B (digs B n 16) = n := by rw [val_digs, Nat.mod_eq_of_lt (show n < B ^ 16 from h)]
theorem fit_lim (n : Nat) (hn : n < 2 ^ 256) (w : World) : Calls Tryd.prog 30 #[refV n] w fun e w' => e = .returned (refV (n % P)) ∧ Below w.heap.size w w' := by
  have := fit_any (digs B n 16) (digs_length _ _ _) (digs_small n) w
  rw [digs_val16 hn] at this
  exact this

def RawAt (v k : Nat) (w wr : World) : Prop :=
  Blk wr (w.heap.size + 1) 35 (u64s (partN (digs B v 16) k)) ∧ Blk wr w.heap.size 35 (limF 0) ∧ Below w.heap.size w wr
theorem RawAt.drew {v k : Nat} {w wr : World} (h : RawAt v k w wr) : RawAt v k w wr.drew := ⟨h.1.drew, h.2.1.drew, h.2.2.drew⟩

set_option maxHeartbeats 4000000 in
set_option maxRecDepth 100000 in
theorem raw_any (v : Nat) (hv : v < 2 ^ 256) (ad : Addr) (c : Nat) (w : World) (hr : Reads w w.heap.size 1 (some ad) 32 (Lib.byteCells (fbytes v))) :
    Calls Tryd.prog 14 #[.slice (some ad) 32 c] w fun e w' => e = .returned (.tuple #[refV (v % P), .bool (decide (v < P))]) ∧ Below w.heap.size w w' := by
  have hal : Tryd.prog.arrayLen 35 = 16 := by kernel_rfl
  have hel : Tryd.prog.elem 35 = 23 := by kernel_rfl
  obtain ⟨z, hz⟩ : ∃ z, Hid (z = limF 0) := ⟨_, Lib.hid rfl⟩
  have hz0 : ∀ W, (zeroValue 35).run Tryd.prog W = .ok (.agg z) W := by
    rw [hz.out, ← zero16]; exact (zero_of_info (n := 16) (by kernel_rfl)).1
  have hzi : Hid ((Tryd.prog.info? 35).map (·.size) = some z.size) := by rw [hz.out]; exact Lib.hid (limF_info 0)
  have hz1 : Hid (z.all (·.oneCell') = true) := by rw [hz.out]; exact Lib.hid (limF_one 0)
  have HR := Lib.hid hr
  have HV := Lib.hid hv
  clear hr hv
  go_enter Tryd.func14, Tryd.ntmps14
  go_wp2_with (first | (refine wpList_store_row rfl 35 (.tmp 4) (.tmp 8) rfl (w.heap.size + 1) z rfl rfl 35 z (heap_alloc2_new w _ _) hzi.out rfl hz1.out ?_; rw [setRow_alloc2]))
  go_loopg [5] 16 (fun g iv wr => ∃ k, iv = .int .i64 (k : Nat) ∧ g + k = 16 ∧ RawAt v k w wr)
  case atStart =>
    refine ⟨0, rfl, rfl, ?_, ?_, ((Below.refl _ _).alloc (Nat.le_refl _) _).alloc (by simp) _⟩
    · rw [partN_zero, digs_length, zero16, ← hz.out]; exact heap_alloc2_new w _ _
    · rw [← hz.out]; exact (Blk.new w _ z).alloc _
  case round =>
    obtain ⟨k, rfl, hg, b1, b2, hb⟩ := hrel
    by_cases hlt : k < 16
    · have hrw := HR.out.below hb
      obtain ⟨ad', hA, hadb, hcell⟩ := hrw.2 (by omega)
      injection hA with hA
      subst hA
      have g0 := hcell (2 * k) _ (show (Lib.byteCells (fbytes v))[2 * k]? = some (.int .u8 (((fbytes v).getD (2 * k) 0).toNat : Int)) by
        have h1 : 2 * k < (fbytes v).length := by rw [fbytes_length]; omega
        simp [Lib.byteCells, List.getD, List.getElem?_eq_getElem h1])
      have g1 := hcell (2 * k + 1) _ (show (Lib.byteCells (fbytes v))[2 * k + 1]? = some (.int .u8 (((fbytes v).getD (2 * k + 1) 0).toNat : Int)) by
        have h1 : 2 * k + 1 < (fbytes v).length := by rw [fbytes_length]; omega
        simp [Lib.byteCells, List.getD, List.getElem?_eq_getElem h1])
      have g1' := g1
      rw [show ad.add (2 * k + 1) = ⟨ad.block, ad.off + (2 * k + 1), none⟩ by unfold Addr.add; rw [if_neg (by omega)]] at g1'
      have hy0 := fbytes_get v (2 * k) (by omega)
      have hy1 := fbytes_get v (2 * k + 1) (by omega)
      have hlb := limb_bytes v k
      rw [← hy0, ← hy1, ← digs_getD B v 16 k hlt] at hlb
      have l0 := ((fbytes v).getD (2 * k) 0).toNat_lt
      have l1 := ((fbytes v).getD (2 * k + 1) 0).toNat_lt
      generalize ((fbytes v).getD (2 * k) 0).toNat = y0 at *
      generalize ((fbytes v).getD (2 * k + 1) 0).toNat = y1 at *
      obtain ⟨x, hX⟩ := named ((digs B v 16).getD k 0)
      rw [← hX.out] at hlb
      have cv0 : IntKind.u64.wrap (y0 : Int) = (y0 : Int) := by rw [IntKind.wrap_u64]; omega
      have cv1 : IntKind.u64.wrap (y1 : Int) = (y1 : Int) := by rw [IntKind.wrap_u64]; omega
      obtain ⟨m, hm⟩ := named (256 * y1)
      have cm : IntKind.u64.wrap (256 * (y1 : Int)) = (m : Int) := by rw [IntKind.wrap_u64, hm.out]; omega
      have cx := wrap_sum y0 m x (by rw [hlb, hm.out]; unfold M; omega)
      have i0 : IntKind.i64.wrap (2 * (k : Int)) = 2 * (k : Int) := IntWalk.i64_in _ (by omega)
      have i1 : IntKind.i64.wrap (2 * (k : Int) + 1) = 2 * (k : Int) + 1 := IntWalk.i64_in _ (by omega)
      have t0 : (2 * (k : Int)).toNat = 2 * k := by omega
      have t1 : (2 * (k : Int) + 1).toNat = 2 * k + 1 := by omega
      have q0 : (0 : Int) ≤ 2 * (k : Int) := by omega
      have q1 : (0 : Int) ≤ 2 * (k : Int) + 1 := by omega
      have q2 : 2 * (k : Int) < 32 := by omega
      have q3 : 2 * (k : Int) + 1 < 32 := by omega
      have hx := b1.u64 k (by rw [partN_length (by rw [digs_length]; omega), digs_length]; omega)
      have hf := b1.frozen k
      have hn2 : Hid (RawAt v (k + 1) w (wr.setCell ⟨w.heap.size + 1, k, none⟩ (.int .u64 (x : Int)))) := Lib.hid (by
        refine ⟨?_, b2.far (by show w.heap.size ≠ w.heap.size + 1; omega) _, hb.setCell (by show w.heap.size ≤ w.heap.size + 1; omega) _⟩
        have := b1.u64set k x
        rw [hX.out, partN_set (by rw [digs_length]; omega)] at this
        rw [hX.out]; exact this)
      obtain ⟨u, hu⟩ := named ((partN (digs B v 16) k).getD k 0)
      rw [← hu.out] at hx
      have HLB := Lib.hid hlb
      have L0 := Lib.hid l0
      have L1 := Lib.hid l1
      clear b1 b2 hb hlb hcell hrw hy0 hy1 l0 l1
      go_wp2
      go_region
      have hnd := Lib.hid hn2.out.drew
      clear hn2
      go_wp2
      go_roundg (gk - 1)
      case measure => omega
      case rel => exact ⟨k + 1, by go_num, by omega, hnd.out⟩
    · obtain rfl : k = 16 := by omega
      have e16 : partN (digs B v 16) 16 = digs B v 16 := by
        have := partN_all (digs B v 16)
        rwa [digs_length] at this
      rw [e16] at b1
      have X1 : Hid (Blk wr (w.heap.size + 1) 35 (limF v)) := Lib.hid b1
      have B2 := Lib.hid b2
      have HBL := Lib.hid hb
      have hRi := Lib.hid (limF_info v)
      have hR1 := Lib.hid (limF_one v)
      have hzz : Hid (z.size = (limF v).size) := Lib.hid (by rw [hz.out, limF_size, limF_size])
      have hlt1 := b1.lt
      clear b1 b2 hb hg
      go_wp2_with (first | (refine wpList_load_row rfl 35 (.tmp 4) rfl (w.heap.size + 1) rfl 35 (limF v) (0, 0) _ X1.out Tryd.underlying35 rfl hRi.out ?_) |
        (refine wpList_store_row rfl 35 (.tmp 6) (.tmp 30) rfl wr.heap.size (limF v) rfl rfl 35 z (heap_alloc_new wr _) hRi.out hzz.out hR1.out ?_; rw [setRow_alloc1]) |
        (refine wpList_load_row rfl 35 (.tmp 6) rfl wr.heap.size rfl 35 (limF v) (0, 0) _ (heap_alloc_new wr _) Tryd.underlying35 rfl hRi.out ?_))
      refine (fit_lim v HV.out _).mono ?_
      rintro e w2 ⟨rfl, hb2⟩
      have hb3 : Hid (Below wr.heap.size wr w2) := Lib.hid (((Below.refl _ _).alloc (Nat.le_refl _) _).trans (hb2.mono (by simp)))
      have X2 := Lib.hid (X1.out.old hb3.out)
      have B22 := Lib.hid (B2.out.old hb3.out)
      have hzs2 : Hid (z.size = (limF (v % P)).size) := Lib.hid (by rw [hz.out, limF_size, limF_size])
      have hRi2 := Lib.hid (limF_info (v % P))
      have hR12 := Lib.hid (limF_one (v % P))
      unfold refV
      clear hb2
      go_wp2_with (first | (refine wpList_store_row rfl 35 (.tmp 7) (.tmp 32) rfl w2.heap.size (limF (v % P)) rfl rfl 35 z (heap_alloc_new w2 _) hRi2.out hzs2.out hR12.out ?_; rw [setRow_alloc1]))
      have N3 := Blk.new w2 35 (limF (v % P))
      have X3 := X2.out.alloc (.cells (limF (v % P)) 35)
      have B3 := B22.out.alloc (.cells (limF (v % P)) 35)
      have hb4 : Below w.heap.size w (w2.alloc (.cells (limF (v % P)) 35)) := (HBL.out.trans (hb3.out.mono HBL.out.size)).alloc (by have h1 := HBL.out.size; have h2 := hb3.out.size; omega) _
      generalize w2.alloc (.cells (limF (v % P)) 35) = W3 at *
      have hzz4 : Hid ((limF 0).size = (limF (v % P)).size) := Lib.hid (by rw [limF_size, limF_size])
      have hPl : v % P < 2 ^ 256 := Nat.lt_trans (Nat.mod_lt _ (by decide)) (by decide)
      have hdec : decide (digs B (v % P) 16 = digs B v 16) = decide (v < P) := by
        rw [decide_eq_decide, digs_eq hPl HV.out]
        constructor
        · intro h; rw [← h]; exact Nat.mod_lt _ (by decide)
        · exact Nat.mod_eq_of_lt
      have HD := Lib.hid hdec
      have HB4 := Lib.hid hb4
      have BB3 := Lib.hid B3
      clear hdec hb4 B3 hPl
      refine wp_region_held_drew (S := fun W => Blk W w2.heap.size 35 (limF (v % P)) ∧ Blk W (w.heap.size + 1) 35 (limF v)) (by kernel_rfl) ⟨N3.drew, X3.drew⟩ (fun hHeld => ?_)
      refine' wpAnyH_take (i := 0) (oi := _) (v := .agg (limF (v % P))) ?hit0 ?hst0 ?hft0 ?hrt0 ?hQt0 ?hyt0 ?hSt0 ?_
      case hit0 => (simp only [List.getElem?_toArray, List.getElem?_cons_succ, List.getElem?_cons_zero]; rfl)
      case hst0 => kernel_rfl
      case hft0 => kernel_rfl
      case hrt0 => kernel_rfl
      case hQt0 => exact fun _ _ _ h => h
      case hSt0 => assumption
      case hyt0 =>
        refine Or.inl ⟨by rfl, ?_⟩
        intro W hS
        exact quiet_load_row 35 (.tmp 7) w2.heap.size rfl 35 (limF (v % P)) _ hS.1 Tryd.underlying35 rfl hRi2.out rfl
      (try simp only [Act.put, List.setIfInBounds_toArray, List.set_cons_zero, List.set_cons_succ])
      refine' wpAnyH_take (i := 1) (oi := _) (v := .agg (limF (v % P))) ?hit1 ?hst1 ?hft1 ?hrt1 ?hQt1 ?hyt1 ?hSt1 ?_
      case hit1 => (simp only [List.getElem?_toArray, List.getElem?_cons_succ, List.getElem?_cons_zero]; rfl)
      case hst1 => kernel_rfl
      case hft1 => kernel_rfl
      case hrt1 => kernel_rfl
      case hQt1 => exact fun _ _ _ h => h
      case hSt1 => assumption
      case hyt1 =>
        refine Or.inl ⟨by rfl, ?_⟩
        intro W hS
        exact quiet_load_row 35 (.tmp 7) w2.heap.size rfl 35 (limF (v % P)) _ hS.1 Tryd.underlying35 rfl hRi2.out rfl
      (try simp only [Act.put, List.setIfInBounds_toArray, List.set_cons_zero, List.set_cons_succ])
      refine' wpAnyH_take (i := 2) (oi := _) (v := .agg (limF v)) ?hit2 ?hst2 ?hft2 ?hrt2 ?hQt2 ?hyt2 ?hSt2 ?_
      case hit2 => (simp only [List.getElem?_toArray, List.getElem?_cons_succ, List.getElem?_cons_zero]; rfl)
      case hst2 => kernel_rfl
      case hft2 => kernel_rfl
      case hrt2 => kernel_rfl
      case hQt2 => exact fun _ _ _ h => h
      case hSt2 => assumption
      case hyt2 =>
        refine Or.inl ⟨by rfl, ?_⟩
        intro W hS
        exact quiet_load_row 35 (.tmp 4) (w.heap.size + 1) rfl 35 (limF v) _ hS.2 Tryd.underlying35 rfl hRi.out rfl
      (try simp only [Act.put, List.setIfInBounds_toArray, List.set_cons_zero, List.set_cons_succ])
      refine' wpAnyH_take (i := 3) (oi := _) (v := .bool (decide (v < P))) ?hit3 ?hst3 ?hft3 ?hrt3 ?hQt3 ?hyt3 ?hSt3 ?_
      case hit3 => (simp only [List.getElem?_toArray, List.getElem?_cons_succ, List.getElem?_cons_zero]; rfl)
      case hst3 => kernel_rfl
      case hft3 => kernel_rfl
      case hrt3 => kernel_rfl
      case hQt3 => exact fun _ _ _ h => h
      case hSt3 => assumption
      case hyt3 =>
        refine Or.inl ⟨by rfl, ?_⟩
        intro W hS
        rw [← HD.out]; exact quiet_eq_F W (.tmp 34) (.tmp 35) 35 _ _ (digs_length _ _ _) (digs_length _ _ _) rfl rfl rfl
      (try simp only [Act.put, List.setIfInBounds_toArray, List.set_cons_zero, List.set_cons_succ])
      refine wpAnyH_ready (rs := [4]) (by kernel_rfl) (by simp) ?_
      refine' AllReadyH.cons (o := _) ?hir4 (fun K hK => ?_) AllReadyH.nil
      case hir4 => (simp only [List.getElem?_toArray, List.getElem?_cons_succ, List.getElem?_cons_zero]; rfl)
      refine step_of_wp rfl ?_
      refine wp_store_row 35 (.tmp 2) (.tmp 33) rfl w.heap.size (limF (v % P)) rfl rfl 35 (limF 0) BB3.out.drew hRi2.out hzz4.out hR12.out ?_
      refine hK.out _ _ ?_ (fun hHeld => ?_)
      exact ⟨N3.drew.rowFar (by have := HBL.out.size; have := hb3.out.size; omega) _, X3.drew.rowFar (by omega) _⟩
      clear hK K
      (try simp only [Act.put, List.setIfInBounds_toArray, List.set_cons_zero, List.set_cons_succ])
      refine' wpAnyH_take (i := 5) (oi := _) (v := _) ?hit5 ?hst5 ?hft5 ?hrt5 ?hQt5 ?hyt5 ?hSt5 ?_
      case hit5 => (simp only [List.getElem?_toArray, List.getElem?_cons_succ, List.getElem?_cons_zero]; rfl)
      case hst5 => kernel_rfl
      case hft5 => kernel_rfl
      case hrt5 => kernel_rfl
      case hQt5 => exact fun _ _ _ h => h
      case hSt5 => assumption
      case hyt5 =>
        refine Or.inl ⟨by rfl, ?_⟩
        intro w hSw
        (try dsimp only at hSw)
        go_simp
        all_goals (with_reducible rfl)
      (try simp only [Act.put, List.setIfInBounds_toArray, List.set_cons_zero, List.set_cons_succ])
      refine wpAnyH_done (by kernel_rfl) ?_ _
      have hfin := BB3.out.drew.row (limF (v % P))
      have hbel := Lib.hid (below_row (HB4.out.drew) (Nat.le_refl _) (limF (v % P)))
      generalize W3.drew.setRow w.heap.size (limF (v % P)) = W5 at *
      have HFIN := Lib.hid hfin
      clear hfin hHeld N3 X3
      go_wp2
      refine bodyPost_ret (v := .tuple #[.agg (limF (v % P)), .bool (decide (v < P))]) ?_ rfl ⟨rfl, hbel.out⟩
      exact results_row_tmp Tryd.results14 _ _ w.heap.size 35 _ _ _ _ rfl rfl HFIN.out Tryd.underlying35 hRi2.out
end Go.Proofs.YtphlehinjooncaaDoor
