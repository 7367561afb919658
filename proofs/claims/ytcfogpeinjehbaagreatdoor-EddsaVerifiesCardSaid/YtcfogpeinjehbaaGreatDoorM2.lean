/-
  Several texts in one: FldMulti, FldElem, FldBytes, FldRef1, FldRaw, FldGet, FldSame, FldOpsM, ScaM, ScaRef1, ScaRef2, ScaByt, ScaRef3, ScaRef4, ScaRef5, FldPrime, FldPowM, EdwM, EdwM2, EdwM3, EdwM4, EdM, ShaRef1, ShaRef2. Conditions: those that each theorem states.
-/
import Derived.Test.YtcfogpeinjehbaaGreatDoorM1
import Derived.Deep.QuietTactic
import Derived.BigQuiet
import Derived.Laws.Cover3
import Derived.Deep.RegionHeld3
import Derived.Deep.RegionWith
import Derived.Laws.ResultCell
import Derived.Test.YtcfogpeinjehbaaGreatDoorProg
import Derived.Deep.WholeRow
import Derived.WalkMore
import Derived.WalkKit
import Derived.IntWalk
import Derived.Lib.Hide
import Derived.Deep.LoopGhost
import Derived.StillTailTactics
import Derived.BigRegion
import Derived.Deep.OwnRows
set_option linter.unusedVariables false
set_option linter.unusedSimpArgs false
open Go.Lib (hid)
open Go.Proofs.YtcfogpeinjehbaaGreatDoor (zA zB zC zD zE zF)

section
namespace Go.Proofs.YtcfogpeinjehbaaGreatDoor
open Go Go.Proofs Go.RowKit F5
theorem times_arith {lo hi lo' top : Nat} (h1 : lo < M ^ 4) (h2 : hi < M ^ 4) (h3 : lo' < M ^ 4) (h : lo' + M ^ 4 * top = lo + 38 * hi) : top ≤ 38 ∧ subP (foldN top lo') P = (lo + M ^ 4 * hi) % P := by
 have ht : top ≤ 38 := by unfold M at *; omega
 refine ⟨ht, ?_⟩
 obtain ⟨q, hq⟩ : ∃ q, q = lo' / 2 ^ 255 := ⟨_, rfl⟩
 obtain ⟨s, hs⟩ : ∃ s, s = lo' % 2 ^ 255 := ⟨_, rfl⟩
 have h5 : lo' = 2 ^ 255 * q + s := by rw [hq, hs]; exact (Nat.div_add_mod _ _).symm
 have hsl : s < 2 ^ 255 := by rw [hs]; exact Nat.mod_lt _ (by decide)
 have hql : q ≤ 1 := by unfold M at h3; omega
 have hF : foldN top lo' = 38 * top + 19 * q + s := by unfold foldN; rw [← hq, ← hs]; omega
 have hN : lo + M ^ 4 * hi = foldN top lo' + P * (q + 2 * top + 2 * hi) := by rw [hF]; unfold M P at *; omega
 have hFl : foldN top lo' < M ^ 4 := by rw [hF]; unfold M; omega
 have hF2 : foldN top lo' < 2 * P := by rw [hF]; unfold P; omega
 rw [subP_P hFl, hN, Nat.add_mul_mod_self_left]
 split
 ·rename_i hle
  rw [Nat.mod_eq_sub_mod hle, Nat.mod_eq_of_lt (by omega)]
 ·rw [Nat.mod_eq_of_lt (by omega)]
theorem PrimeAt.drewN {w : World} (h : PrimeAt w) (n : Nat) : PrimeAt (w.drewN n) := h
theorem slice8 (g i : Nat) (hi : i < 8) (W : World) : (Instr.sliceAt 116 (.pointer (some ⟨g, 0, none⟩)) (some (.int .i64 (i : Int))) none none).run Tryz.prog W = .ok (.slice (some ⟨g, i, none⟩) (8 - i) (8 - i)) W := by
 have hal : Tryz.prog.arrayLen 116 = 8 := by kernel_rfl
 have hel : Tryz.prog.elem 116 = 40 := by kernel_rfl
 rw [run_sliceAt_array_l W 116 ⟨g, 0, none⟩ (by rw [hal, hel]; exact Tryz.underlying116) .i64 (i : Int) (by omega) (by rw [hal]; omega), hal, hel, Tryz.sizeOf40]
 simp only [Result.andThen, slicedAt, Int.toNat_natCast, Nat.mul_one]
 rw [if_neg (by omega)]
 have e : (⟨g, 0, none⟩ : Addr).add i = ⟨g, i, none⟩ := by unfold Addr.add; split <;> simp_all
 rw [e]
theorem slice8h (g : Nat) (W : World) : (Instr.sliceAt 116 (.pointer (some ⟨g, 0, none⟩)) none (some (.int .i64 4)) none).run Tryz.prog W = .ok (.slice (some ⟨g, 0, none⟩) 4 8) W := by
 have hal : Tryz.prog.arrayLen 116 = 8 := by kernel_rfl
 have hel : Tryz.prog.elem 116 = 40 := by kernel_rfl
 rw [run_sliceAt_array_h W 116 ⟨g, 0, none⟩ (by rw [hal, hel]; exact Tryz.underlying116) .i64 4 (by omega) (by rw [hal]; omega), hal, hel, Tryz.sizeOf40]
 rfl
theorem arr4 (p : Option Addr) (n c : Nat) (hn : 4 ≤ n) (W : World) : (Instr.arrayAt 42 (.slice p n c)).run Tryz.prog W = .ok (.pointer p) W := run_arrayAt W _ _ 4 p n c Tryz.underlying42 hn
/-- The product, as far as i of the limbs have come. -/
def RowsAt (gw : Nat) (A B : List Nat) (w : World) (i : Nat) (wr : World) : Prop :=
 ∃ W, W.length = 8 ∧ All M W ∧ val M W = val M (A.take i) * val M B ∧ (∀ j, i + 4 ≤ j → W.getD j 0 = 0) ∧ Blk wr gw 116 (u64s W) ∧ Below w.heap.size w wr ∧ Blk wr w.heap.size 42 (u64s [0, 0, 0, 0])
theorem RowsAt.drew {gw i : Nat} {A B : List Nat} {w wr : World} (h : RowsAt gw A B w i wr) : RowsAt gw A B w i wr.drew := by
 obtain ⟨W, h1, h2, h3, h4, h5, h6, h7⟩ := h
 exact ⟨W, h1, h2, h3, h4, h5.drew, h6.drew, h7.drew⟩
def RowEnd (gw : Nat) (A B : List Nat) (w : World) (i : Nat) (e : Ending) (w' : World) : Prop :=
 ∃ c : Nat, e = .returned (.int .u64 (c : Int)) ∧ (∃ u, w'.cell? ⟨gw, i + 4, none⟩ = some u) ∧ w'.frozen? ⟨gw, i + 4, none⟩ = false ∧ Hid (RowsAt gw A B w (i + 1) (w'.setCell ⟨gw, i + 4, none⟩ (.int .u64 (c : Int))))
theorem getD_mid (X Y : List Nat) (j : Nat) (hl : X.length = Y.length) (h : X.drop j = Y.drop j) (k : Nat) (hk : j ≤ k) : X.getD k 0 = Y.getD k 0 := by
 have e : ∀ Z : List Nat, Z.getD k 0 = (Z.drop j).getD (k - j) 0 := fun Z => by
  rw [List.getD_eq_getElem?_getD, List.getD_eq_getElem?_getD, List.getElem?_drop, show j + (k - j) = k by omega]
 rw [e X, e Y, h]
theorem row_arith {A B W L : List Nat} {i c : Nat} (hi : i < 4) (hA4 : A.length = 4) (hB4 : B.length = 4) (hW8 : W.length = 8) (hW : All M W) (hv : val M W = val M (A.take i) * val M B) (hz : ∀ j, i + 4 ≤ j → W.getD j 0 = 0)
  (hc : c < M) (hL : Part M ((W.drop i).take 4) 4 L c (A.getD i 0 * val M B)) :
  (((W.take i ++ L ++ W.drop (i + 4)).set (i + 4) c).length = 8) ∧ All M ((W.take i ++ L ++ W.drop (i + 4)).set (i + 4) c) ∧ val M ((W.take i ++ L ++ W.drop (i + 4)).set (i + 4) c) = val M (A.take (i + 1)) * val M B ∧
   ∀ j, i + 1 + 4 ≤ j → ((W.take i ++ L ++ W.drop (i + 4)).set (i + 4) c).getD j 0 = 0 := by
 obtain ⟨h1, h2, _, h4⟩ := hL
 have hl4 : ((W.drop i).take 4).length = 4 := by simp; omega
 have hLl : L.length = 4 := h1.trans hl4
 have ht : (W.take i).length = i := by simp; omega
 have hX8 : (W.take i ++ L ++ W.drop (i + 4)).length = 8 := by simp [ht, hLl]; omega
 have hd : (W.take i ++ L ++ W.drop (i + 4)).drop (i + 4) = W.drop (i + 4) := by
  rw [List.drop_append_of_le_length (by simp [ht, hLl]), List.drop_of_length_le (by simp [ht, hLl]), List.nil_append]
 have hg : ∀ j, i + 4 ≤ j → (W.take i ++ L ++ W.drop (i + 4)).getD j 0 = 0 := fun j hj => by
  rw [getD_mid _ W (i + 4) (by rw [hX8, hW8]) hd j hj]; exact hz j hj
 have hAll : All M (W.take i ++ L ++ W.drop (i + 4)) := All.append (All.append (fun x hx => hW x (List.mem_of_mem_take hx)) h2) (fun x hx => hW x (List.mem_of_mem_drop hx))
 refine ⟨by simpa using hX8, hAll.set hc, ?_, fun j hj => ?_⟩
 ·have hs := val_set M (W.take i ++ L ++ W.drop (i + 4)) (i + 4) c (by omega)
  rw [hg (i + 4) (Nat.le_refl _), Nat.mul_zero, Nat.add_zero] at hs
  have hWs : W = W.take i ++ ((W.drop i).take 4 ++ W.drop (i + 4)) := by
   rw [← List.drop_drop, List.take_append_drop, List.take_append_drop]
  have e1 : val M W = val M (W.take i) + M ^ i * (val M ((W.drop i).take 4) + M ^ 4 * val M (W.drop (i + 4))) := by
   conv => lhs; rw [hWs]
   rw [val_append, val_append, ht, hl4]
  rw [hs, val_append, val_append, List.length_append, ht, hLl, val_take_succ _ _ _ (by omega), Nat.add_mul, ← hv, e1]
  have h5 := congrArg (M ^ i * ·) h4
  simp only [Nat.mul_add] at h5
  rw [Nat.mul_add, Nat.pow_add, Nat.mul_assoc, Nat.mul_assoc, Nat.mul_assoc]
  omega
 ·rw [F5.getD_set_ne _ _ (by omega)]
  exact hg j (by omega)
set_option maxHeartbeats 1000000 in
set_option maxRecDepth 100000 in
theorem row_any (g o h oq i : Nat) (A B : List Nat) (w wr : World) (hR : RowsAt (w.heap.size + 1) A B w i wr) (hi : i < 4) (hA4 : A.length = 4) (hA : All M A) (hB4 : B.length = 4) (hB : All M B)
  (hOB : ∀ j, j < 4 → w.cell? ⟨h, oq + j, none⟩ = some (.int .u64 ((B.getD j 0 : Nat) : Int))) (hh : h < w.heap.size) :
  Calls Tryz.prog 103 #[.pointer (some ⟨w.heap.size + 1, i, none⟩), .int .u64 ((A.getD i 0 : Nat) : Int), .pointer (some ⟨h, oq, none⟩)] wr (RowEnd (w.heap.size + 1) A B w i) := by
 obtain ⟨W, h1, h2, h3, h4, h5, h6, h7⟩ := hR
 have ht : (W.take i).length = i := by simp; omega
 have hl4 : ((W.drop i).take 4).length = 4 := by simp; omega
 have hWs : W = W.take i ++ (W.drop i).take 4 ++ W.drop (i + 4) := by
  rw [List.append_assoc, ← List.drop_drop, List.take_append_drop, List.take_append_drop]
 have hBk : Blk wr (w.heap.size + 1) 116 (u64s (W.take i ++ (W.drop i).take 4 ++ W.drop (i + 4))) := by rw [← hWs]; exact h5
 refine (addTimes_any (w.heap.size + 1) i 116 h oq (A.getD i 0) (W.take i) ((W.drop i).take 4) B (W.drop (i + 4)) wr hBk ht hl4
  (fun x hx => h2 x (List.mem_of_mem_drop (List.mem_of_mem_take hx))) hB4 hB ?_ (hA.getD (by decide) i)).mono ?_
 ·intro X L _ _ hg j hj
  rw [hg.cell_far ⟨h, oq + j, none⟩ (Nat.lt_of_lt_of_le hh h6.size) (fun e => by injection e with e; have : h = w.heap.size + 1 := e; omega), h6.cell (p := ⟨h, oq + j, none⟩) hh]
  exact hOB j hj
 rintro e w' ⟨L, c, rfl, hc, hL, hb, hg⟩
 obtain ⟨a1, a2, a3, a4⟩ := row_arith hi hA4 hB4 h1 h2 h3 h4 hc hL
 have hX8 : (W.take i ++ L ++ W.drop (i + 4)).length = 8 := by simpa using a1
 refine ⟨c, rfl, ⟨_, (hb.cell _).trans (Array.getElem?_eq_getElem (by rw [u64s_size, hX8]; omega))⟩, hb.frozen _, hid ⟨_, a1, a2, a3, a4, ?_, ?_, ?_⟩⟩
 ·have := hb.set_ (i + 4) (.int .u64 (c : Int))
  rwa [u64s_set] at this
 ·exact (h6.grown hg h6.size (fun k hk => by injection hk with hk; omega)).setCell (by show w.heap.size ≤ w.heap.size + 1; omega) _
 ·exact (h7.grown hg (by intro e; injection e with e; omega)).far (by show w.heap.size ≠ w.heap.size + 1; omega) _
set_option maxHeartbeats 4000000 in
set_option maxRecDepth 100000 in
theorem times_any (g o h oq : Nat) (A B : List Nat) (w : World) (hA4 : A.length = 4) (hA : All M A) (hB4 : B.length = 4) (hB : All M B)
  (hOA : ∀ j, j < 4 → w.cell? ⟨g, o + j, none⟩ = some (.int .u64 ((A.getD j 0 : Nat) : Int))) (hg : g < w.heap.size)
  (hOB : ∀ j, j < 4 → w.cell? ⟨h, oq + j, none⟩ = some (.int .u64 ((B.getD j 0 : Nat) : Int))) (hh : h < w.heap.size) (hP : PrimeAt w) :
  Calls Tryz.prog 73 #[.pointer (some ⟨g, o, none⟩), .pointer (some ⟨h, oq, none⟩)] w fun e w' => e = .returned (.agg (u64s (digs M (val M A * val M B % P) 4))) ∧ Below w.heap.size w w' := by
 have hal : Tryz.prog.arrayLen 42 = 4 := by kernel_rfl
 have hel : Tryz.prog.elem 42 = 40 := by kernel_rfl
 have hal8 : Tryz.prog.arrayLen 116 = 8 := by kernel_rfl
 have hel8 : Tryz.prog.elem 116 = 40 := by kernel_rfl
 have HOA := hid hOA
 have HOB := hid hOB
 have HA4 := hid hA4
 have HB4 := hid hB4
 have HA := hid hA
 have HB := hid hB
 have HP := hid hP
 clear hOA hOB hA4 hB4 hA hB hP
 go_enter Tryz.func73, Tryz.ntmps73
 go_wp2
 go_loopw [6, 10] (fun _ iv wr => ∃ i, i ≤ 4 ∧ iv = .int .i64 (i : Nat) ∧ RowsAt (w.heap.size + 1) A B w i wr) (fun _ iv _ => 4 - (intOf iv).toNat)
 case atStart =>
  refine ⟨0, by omega, rfl, List.replicate 8 0, rfl, fun x hx => by rw [List.eq_of_mem_replicate hx]; decide, by simp [val], fun j _ => ?_, ?_, ?_, ?_⟩
  ·rw [List.getD_eq_getElem?_getD, List.getElem?_replicate]; split <;> rfl
  ·have := Blk.new (w.alloc (.cells (u64s [0, 0, 0, 0]) 42)) 116 (u64s (List.replicate 8 0))
   rw [show (w.alloc (.cells (u64s [0, 0, 0, 0]) 42)).heap.size = w.heap.size + 1 by simp] at this
   exact this
  ·exact ((Below.refl _ _).alloc (Nat.le_refl _) _).alloc (by simp) _
  ·exact (Blk.new w 42 (u64s [0, 0, 0, 0])).alloc _
 case round =>
  obtain ⟨i, hi, rfl, hR⟩ := hrel
  have HR := hid hR
  by_cases hlt : i < 4
  ·obtain ⟨W, h1, h2, h3, h4, h5, h6, h7⟩ := hR
   have hx : wr.cell? ⟨g, o + i, none⟩ = some (.int .u64 ((A.getD i 0 : Nat) : Int)) := (h6.cell (p := ⟨g, o + i, none⟩) hg).trans (HOA.out i hlt)
   have HC := hid (row_any g o h oq i A B w wr.drew HR.out.drew hlt HA4.out HA.out HB4.out HB.out HOB.out hh)
   clear h1 h2 h3 h4 h5 h6 h7
   generalize A.getD i 0 = x at *
   have hsl := slice8 (w.heap.size + 1) i (by omega)
   have harr := arr4 (some ⟨w.heap.size + 1, i, none⟩) (8 - i) (8 - i) (by omega)
   have hsum : IntKind.i64.wrap ((i : Int) + 4) = (i : Int) + 4 := IntWalk.i64_in _ (by omega)
   have hs0 : (0 : Int) ≤ (i : Int) + 4 := by omega
   have hs8 : (i : Int) + 4 < 8 := by omega
   have hsn : ((i : Int) + 4).toNat = i + 4 := by omega
   go_wp2
   go_region_with (go_at_call 103; (with_reducible refine HC.out.mono ?_); rintro e w2 ⟨c, rfl, ⟨u, hcell⟩, hfr, hnext⟩)
   all_goals
    go_wp2
    go_roundw
    case rel => exact ⟨i + 1, by omega, by go_num, hnext.out⟩
    case measure => simp [intOf]; omega
  ·obtain rfl : i = 4 := by omega
   obtain ⟨W, h1, h2, h3, h4, h5, h6, h7⟩ := hR
   have hsl4 := slice8 (w.heap.size + 1) 4 (by omega)
   have hslh := slice8h (w.heap.size + 1)
   have harr0 := arr4 (some ⟨w.heap.size + 1, 0, none⟩) 4 8 (by omega)
   have harr4 := arr4 (some ⟨w.heap.size + 1, 4, none⟩) 4 4 (by omega)
   have hlo4 : (W.take 4).length = 4 := by simp; omega
   have hhi4 : (W.drop 4).length = 4 := by simp; omega
   have hloA : All M (W.take 4) := fun x hx => h2 x (List.mem_of_mem_take hx)
   have hhiA : All M (W.drop 4) := fun x hx => h2 x (List.mem_of_mem_drop hx)
   have hb0 : Hid (Blk wr (w.heap.size + 1) 116 (u64s ([] ++ W.take 4 ++ W.drop 4))) := hid (by rw [List.nil_append, List.take_append_drop]; exact h5)
   have hwv : Hid (val M (W.take 4) + M ^ 4 * val M (W.drop 4) = val M A * val M B) := hid (by
    have e : val M W = val M (W.take 4 ++ W.drop 4) := by rw [List.take_append_drop]
    rw [val_append, hlo4] at e
    rw [← e, h3, val_take4 HA4.out])
   have H6 := hid h6
   have H7 := hid h7
   have HPr := hid (HP.out.old h6)
   clear h1 h2 h3 h4 h5 h6 h7 HR
   generalize W.take 4 = lo at *
   generalize W.drop 4 = hi' at *
   go_wp2
   go_quiet (fail)
   go_wp2_with fail
   refine (addTimes_any (w.heap.size + 1) 0 116 (w.heap.size + 1) 4 38 [] lo hi' hi' _ (hb0.out.drewN _) rfl hlo4 hloA hhi4 hhiA ?_ (by decide)).mono ?_
   ·intro X L hL4 hb hgr j hj
    rw [hb.cell, show ([] : List Nat) ++ L ++ hi' = L ++ hi' ++ [] by simp, u64s_mid L hi' [] 4 j hL4 (by omega)]
   rintro e w2 ⟨L, c, rfl, hcM, hL, hb2, hg2⟩
   obtain ⟨hL1, hL2, _, hLv⟩ := hL
   have hL4 : L.length = 4 := hL1.trans hlo4
   have hv1 := val_lt lo hloA
   have hv2 := val_lt hi' hhiA
   have hv3 := val_lt L hL2
   rw [hlo4] at hv1
   rw [hhi4] at hv2
   rw [hL4] at hv3
   obtain ⟨hc38, hres⟩ := times_arith hv1 hv2 hv3 hLv
   rw [hwv.out] at hres
   have HRES := hid hres
   have HB2 := hid hb2
   have HG2 := hid hg2
   have hpr2 : Hid (PrimeAt w2) := hid (PrimeAt.grown (HPr.out.drewN _) hg2 (by have := HP.out.1; omega))
   have h72 : Hid (Blk w2 w.heap.size 42 (u64s [0, 0, 0, 0])) := hid (Blk.grown (H7.out.drewN _) hg2 (by intro e; injection e with e; omega))
   have h62 : Hid (Below w.heap.size w w2) := hid (Below.grown (H6.out.trans ((Drew.below ⟨_, rfl⟩ : Below wr.heap.size wr (wr.drewN _)).mono H6.out.size)) hg2 (by have := H6.out.size; exact this) (fun k hk => by injection hk with hk; omega))
   clear hres hb2 hg2 hLv hL1 hv1 hv2 hv3
   go_wp2_with fail
   refine (fold_any (w.heap.size + 1) 0 116 c [] L hi' w2 HB2.out rfl hL4 hL2 (by have := HP.out.1; omega) hpr2.out (by omega)).mono ?_
   rintro e w3 ⟨rfl, hb3, hg3⟩
   rw [HRES.out] at hb3
   obtain ⟨R, hR⟩ : ∃ R, Hid (R = u64s (digs M (val M A * val M B % P) 4)) := ⟨_, hid rfl⟩
   have hRs : Hid ((Tryz.prog.info? 42).map (·.size) = some R.size) := by show _ = _; rw [hR.out, u64s_size, digs_length]; exact info4
   have hR1 : Hid (R.all (·.oneCell') = true) := by show _ = _; rw [hR.out]; exact u64s_one _
   have hRc : Hid (∀ j v, R[j]? = some v → w3.cell? ⟨w.heap.size + 1, 0 + j, none⟩ = some v) := hid (by
    intro j v hj
    rw [hR.out] at hj
    have hj4 : j < 4 := by have := (Array.getElem?_eq_some_iff.1 hj).1; rwa [u64s_size, digs_length] at this
    rw [hb3.cell, List.nil_append, show digs M (val M A * val M B % P) 4 ++ hi' = [] ++ digs M (val M A * val M B % P) 4 ++ hi' by simp, u64s_mid [] _ hi' 0 j rfl (by rw [digs_length]; exact hj4), ← hj, u64s_get _ _ (by rw [digs_length]; exact hj4)])
   have h73 : Hid (Blk w3 w.heap.size 42 (u64s [0, 0, 0, 0])) := hid (h72.out.grown hg3 (by intro e; injection e with e; omega))
   have hzz : Hid ((u64s [0, 0, 0, 0]).size = R.size) := by show _ = _; rw [hR.out, u64s_size, u64s_size, digs_length]; rfl
   have h63 : Hid (Below w.heap.size w w3) := hid (h62.out.grown hg3 h62.out.size (fun k hk => by injection hk with hk; omega))
   clear hb3 hg3
   go_wp2_with (first | (refine wpList_load_at rfl 42 (.tmp 38) rfl (w.heap.size + 1) 0 rfl 40 4 R Tryz.underlying42 hRs.out hRc.out ?_) |
    (refine wpList_store_row rfl 42 (.tmp 4) (.tmp 39) rfl w.heap.size R rfl rfl 42 _ h73.out hRs.out hzz.out hR1.out ?_))
   refine bodyPost_ret (v := .agg R) ?_ rfl ⟨by rw [hR.out], below_row h63.out (Nat.le_refl _) _⟩
   exact results_cell_row Tryz.results73 _ _ w.heap.size 42 R (0, 0) _ rfl (h73.out.row R) Tryz.underlying42 rfl hRs.out
end Go.Proofs.YtcfogpeinjehbaaGreatDoor
end

section
namespace Go.Proofs.YtcfogpeinjehbaaGreatDoor
open Go Go.Proofs Go.RowKit F5
theorem ret_int {k : IntKind} {a b : Int} (h : a = b) : Ending.returned (.int k a) = .returned (.int k b) := by rw [h]
theorem ret_bool {a b : Bool} (h : a = b) : Ending.returned (.bool a) = .returned (.bool b) := by rw [h]
/-- A number as four limbs. -/
def limA (n : Nat) : Array Value := u64s (digs M n 4)
def elemV (n : Nat) : Value := .agg (limA n)
theorem limA_size (n : Nat) : (limA n).size = 4 := by rw [limA, u64s_size, digs_length]
theorem limA_one (n : Nat) : (limA n).all (·.oneCell') = true := u64s_one _
theorem limA_get (n i : Nat) (h : i < 4) : (limA n)[i]? = some (.int .u64 ((n / M ^ i % M : Nat) : Int)) := by
 rw [limA, u64s_get _ _ (by rw [digs_length]; exact h), digs_getD _ _ _ _ h]
theorem limA_info (n : Nat) : (Tryz.prog.info? 42).map (·.size) = some (limA n).size := by rw [limA_size]; exact info4
theorem infoE : (Tryz.prog.info? 44).map (·.size) = some 4 := by kernel_rfl
theorem limA_infoE (n : Nat) : (Tryz.prog.info? 44).map (·.size) = some (limA n).size := by rw [limA_size]; exact infoE
theorem P_lt : P < M ^ 4 := by decide
theorem limA_val {n : Nat} (h : n < P) : val M (digs M n 4) = n := by rw [val_digs, Nat.mod_eq_of_lt (Nat.lt_trans h P_lt)]
theorem limA_all (n : Nat) : All M (digs M n 4) := digs_all (by decide) _ _
set_option maxHeartbeats 400000 in
set_option maxRecDepth 100000 in
theorem of_any (n : Nat) (hn : n < M) (w : World) : Calls Tryz.prog 36 #[.int .u64 (n : Int)] w fun e w' => e = .returned (elemV n) ∧ Below w.heap.size w w' := by
 have hd : elemV n = .agg #[.int .u64 (n : Int), .int .u64 0, .int .u64 0, .int .u64 0] := by
  have e : digs M n 4 = [n, 0, 0, 0] := by
   simp only [digs, Nat.mod_eq_of_lt hn, Nat.div_eq_of_lt hn]
   rfl
  rw [elemV, limA, e]; rfl
 rw [hd]
 clear hd
 go_enter Tryz.func36, Tryz.ntmps36
 go_wp2
 refine bodyPost_ret (v := .agg #[.int .u64 (n : Int), .int .u64 0, .int .u64 0, .int .u64 0]) ?_ rfl ⟨rfl, ?_⟩
 ·simp [results, Tryz.results36, go_sem]
 ·exact (Below.refl _ _).alloc (Nat.le_refl _) _
/-- Two elements and a third one's room, one behind the other. -/
theorem three_blks (w : World) (cn cm z : Array Value) (T : TypeId) : Blk (((w.alloc (.cells cn T)).alloc (.cells cm T)).alloc (.cells z T)) w.heap.size T cn ∧ Blk (((w.alloc (.cells cn T)).alloc (.cells cm T)).alloc (.cells z T)) (w.heap.size + 1) T cm ∧
  Blk (((w.alloc (.cells cn T)).alloc (.cells cm T)).alloc (.cells z T)) (w.heap.size + 2) T z ∧ Below w.heap.size w (((w.alloc (.cells cn T)).alloc (.cells cm T)).alloc (.cells z T)) ∧ w.heap.size + 2 < (((w.alloc (.cells cn T)).alloc (.cells cm T)).alloc (.cells z T)).heap.size := by
 refine ⟨((Blk.new w T cn).alloc _).alloc _, ?_, ?_, (((Below.refl _ _).alloc (Nat.le_refl _) _).alloc (by simp) _).alloc (by simp; omega) _, by simp⟩
 ·have := (Blk.new (w.alloc (.cells cn T)) T cm).alloc (.cells z T)
  rwa [show (w.alloc (.cells cn T)).heap.size = w.heap.size + 1 by simp] at this
 ·have := Blk.new ((w.alloc (.cells cn T)).alloc (.cells cm T)) T z
  rwa [show ((w.alloc (.cells cn T)).alloc (.cells cm T)).heap.size = w.heap.size + 2 by simp] at this
theorem nil_mid (l : List Nat) : ([] : List Nat) ++ l ++ [] = l := by simp
theorem Blk.nilmid {w : World} {g t n : Nat} (h : Blk w g t (limA n)) : Blk w g t (u64s ([] ++ digs M n 4 ++ [])) := by rw [nil_mid]; exact h
theorem Blk.limcell {w : World} {g t n : Nat} (h : Blk w g t (limA n)) (j : Nat) (hj : j < 4) : w.cell? ⟨g, 0 + j, none⟩ = some (.int .u64 (((digs M n 4).getD j 0 : Nat) : Int)) := by
 rw [Nat.zero_add, h.cell, limA, u64s_get _ _ (by rw [digs_length]; exact hj)]
theorem add_arith {n m c : Nat} {L : List Nat} (hn : n < P) (hm : m < P) (h : Part M (digs M n 4) 4 L c (val M (digs M m 4))) : L = digs M (n + m) 4 := by
 obtain ⟨h1, h2, _, h4⟩ := h
 rw [limA_val hn, limA_val hm] at h4
 have hl := val_lt L h2
 rw [h1, digs_length] at hl
 refine digs_of h2 (h1.trans (digs_length _ _ _)) ?_
 have hc : c = 0 := by unfold P at hn hm; unfold M at *; omega
 subst hc
 omega
theorem subP_mod {a : Nat} (h : a < 2 * P) : subP a P = a % P := by
 rw [subP_P (Nat.lt_trans h (by decide))]
 split
 ·rename_i hle
  rw [Nat.mod_eq_sub_mod hle, Nat.mod_eq_of_lt (by omega)]
 ·rw [Nat.mod_eq_of_lt (by omega)]
theorem subP_sub {n m : Nat} (hn : n < P) (hm : m < P) : subP n m = (n + P - m) % P := by
 unfold subP
 split
 ·rw [show n + P - m = (n - m) + P by omega, Nat.add_mod_right, Nat.mod_eq_of_lt (by omega)]
 ·rw [show n + M ^ 4 - m + P = (n + P - m) + M ^ 4 by unfold P at *; unfold M; omega, Nat.add_mod_right, Nat.mod_eq_of_lt (by unfold P at *; unfold M; omega), Nat.mod_eq_of_lt (by omega)]
set_option maxHeartbeats 2000000 in
set_option maxRecDepth 100000 in
theorem add_e (n m : Nat) (hn : n < P) (hm : m < P) (w : World) (hP : PrimeAt w) :
  Calls Tryz.prog 66 #[elemV n, elemV m] w fun e w' => e = .returned (elemV ((n + m) % P)) ∧ Below w.heap.size w w' := by
 unfold elemV
 obtain ⟨cn, hcn⟩ : ∃ c, Hid (c = limA n) := ⟨_, hid rfl⟩
 obtain ⟨cm, hcm⟩ : ∃ c, Hid (c = limA m) := ⟨_, hid rfl⟩
 rw [← hcn.out, ← hcm.out]
 have HP := hid hP
 clear hP
 go_enter Tryz.func66, Tryz.ntmps66
 go_wp2_with fail
 have hw1 := HP.out.1
 obtain ⟨b1, b2, b3, hb, hsz⟩ := three_blks w cn cm #[.int .u64 0, .int .u64 0, .int .u64 0, .int .u64 0] 44
 generalize ((w.alloc (.cells cn 44)).alloc (.cells cm 44)).alloc (.cells #[.int .u64 0, .int .u64 0, .int .u64 0, .int .u64 0] 44) = W at *
 have hp := HP.out.old hb
 rw [hcn.out] at b1
 rw [hcm.out] at b2
 have B3 := hid b3
 have HB := hid hb
 refine (add_any w.heap.size 0 44 (w.heap.size + 1) 0 [] (digs M n 4) (digs M m 4) [] W b1.nilmid rfl (digs_length _ _ _) (limA_all n) (digs_length _ _ _) (limA_all m) ?_).mono ?_
 ·intro X L _ _ hg j hj
  exact (b2.grown hg (by intro e; injection e with e; omega)).limcell j hj
 rintro e w2 ⟨rfl, L, c, hL, hB2, hg2⟩
 obtain rfl := add_arith hn hm hL
 have HB2 := hid hB2
 have HG2 := hid hg2
 have hp2 := hid (hp.grown hg2 (by omega))
 clear hB2 hg2 hL b1 b2 b3 hb hp
 go_wp2_with fail
 refine (round_any w.heap.size 0 44 [] (digs M (n + m) 4) [] w2 HB2.out rfl (digs_length _ _ _) (limA_all _) (by omega) hp2.out).mono ?_
 rintro e w3 ⟨rfl, hB3, hg3⟩
 rw [val_digs, Nat.mod_eq_of_lt (show n + m < M ^ 4 by unfold P at *; unfold M; omega), subP_mod (by omega), nil_mid] at hB3
 obtain ⟨R, hR⟩ : ∃ R, Hid (R = limA ((n + m) % P)) := ⟨_, hid rfl⟩
 have hB3' : Hid (Blk w3 w.heap.size 44 R) := by rw [hR.out]; exact hid hB3
 have hg4 := HG2.out.trans hg3
 have b33 : Hid (Blk w3 (w.heap.size + 2) 44 #[.int .u64 0, .int .u64 0, .int .u64 0, .int .u64 0]) := hid (B3.out.grown hg4 (by intro e; injection e with e; omega))
 have hRi : Hid ((Tryz.prog.info? 44).map (·.size) = some R.size) := by rw [hR.out]; exact hid (limA_infoE _)
 have hR1 : Hid (R.all (·.oneCell') = true) := by rw [hR.out]; exact hid (limA_one _)
 have hzz : Hid ((#[.int .u64 0, .int .u64 0, .int .u64 0, .int .u64 0] : Array Value).size = R.size) := by rw [hR.out, limA_size]; exact hid rfl
 have hbel : Hid (Below w.heap.size w w3) := hid (HB.out.grown hg4 HB.out.size (fun k hk => by injection hk with hk; omega))
 clear hB3 hg4 hg3
 go_wp2_with (first | (refine wpList_load_row rfl 44 (.tmp 2) rfl w.heap.size rfl 44 R (0, 0) _ hB3'.out Tryz.underlying44 rfl hRi.out ?_) |
  (refine wpList_store_row rfl 44 (.tmp 4) (.tmp 10) rfl (w.heap.size + 2) R rfl rfl 44 _ b33.out hRi.out hzz.out hR1.out ?_))
 refine bodyPost_ret (v := .agg R) ?_ rfl ⟨by rw [hR.out], below_row hbel.out (by omega) _⟩
 exact results_cell_row Tryz.results66 _ _ (w.heap.size + 2) 44 R (0, 0) _ rfl (b33.out.row R) Tryz.underlying44 rfl hRi.out
set_option maxHeartbeats 2000000 in
set_option maxRecDepth 100000 in
theorem sub_e (n m : Nat) (hn : n < P) (hm : m < P) (w : World) (hP : PrimeAt w) :
  Calls Tryz.prog 67 #[elemV n, elemV m] w fun e w' => e = .returned (elemV ((n + P - m) % P)) ∧ Below w.heap.size w w' := by
 unfold elemV
 obtain ⟨cn, hcn⟩ : ∃ c, Hid (c = limA n) := ⟨_, hid rfl⟩
 obtain ⟨cm, hcm⟩ : ∃ c, Hid (c = limA m) := ⟨_, hid rfl⟩
 rw [← hcn.out, ← hcm.out]
 have HP := hid hP
 clear hP
 go_enter Tryz.func67, Tryz.ntmps67
 go_wp2_with fail
 have hw1 := HP.out.1
 obtain ⟨b1, b2, b3, hb, hsz⟩ := three_blks w cn cm #[.int .u64 0, .int .u64 0, .int .u64 0, .int .u64 0] 44
 generalize ((w.alloc (.cells cn 44)).alloc (.cells cm 44)).alloc (.cells #[.int .u64 0, .int .u64 0, .int .u64 0, .int .u64 0] 44) = W at *
 have hp := HP.out.old hb
 rw [hcn.out] at b1
 rw [hcm.out] at b2
 have B3 := hid b3
 have HB := hid hb
 refine (take_any w.heap.size 0 44 (w.heap.size + 1) 0 [] (digs M n 4) (digs M m 4) [] W b1.nilmid rfl (digs_length _ _ _) (limA_all n) (digs_length _ _ _) (limA_all m) ?_ (by omega) hp).mono ?_
 ·intro X L _ _ hg j hj
  exact (b2.grown hg (by intro e; injection e with e; omega)).limcell j hj
 rintro e w3 ⟨rfl, hB3, hg4⟩
 rw [limA_val hn, limA_val hm, subP_sub hn hm, nil_mid] at hB3
 obtain ⟨R, hR⟩ : ∃ R, Hid (R = limA ((n + P - m) % P)) := ⟨_, hid rfl⟩
 have hB3' : Hid (Blk w3 w.heap.size 44 R) := by rw [hR.out]; exact hid hB3
 have b33 : Hid (Blk w3 (w.heap.size + 2) 44 #[.int .u64 0, .int .u64 0, .int .u64 0, .int .u64 0]) := hid (B3.out.grown hg4 (by intro e; injection e with e; omega))
 have hRi : Hid ((Tryz.prog.info? 44).map (·.size) = some R.size) := by rw [hR.out]; exact hid (limA_infoE _)
 have hR1 : Hid (R.all (·.oneCell') = true) := by rw [hR.out]; exact hid (limA_one _)
 have hzz : Hid ((#[.int .u64 0, .int .u64 0, .int .u64 0, .int .u64 0] : Array Value).size = R.size) := by rw [hR.out, limA_size]; exact hid rfl
 have hbel : Hid (Below w.heap.size w w3) := hid (HB.out.grown hg4 HB.out.size (fun k hk => by injection hk with hk; omega))
 clear hB3 hg4 b1 b2 b3 hb hp
 go_wp2_with (first | (refine wpList_load_row rfl 44 (.tmp 2) rfl w.heap.size rfl 44 R (0, 0) _ hB3'.out Tryz.underlying44 rfl hRi.out ?_) |
  (refine wpList_store_row rfl 44 (.tmp 4) (.tmp 8) rfl (w.heap.size + 2) R rfl rfl 44 _ b33.out hRi.out hzz.out hR1.out ?_))
 refine bodyPost_ret (v := .agg R) ?_ rfl ⟨by rw [hR.out], below_row hbel.out (by omega) _⟩
 exact results_cell_row Tryz.results67 _ _ (w.heap.size + 2) 44 R (0, 0) _ rfl (b33.out.row R) Tryz.underlying44 rfl hRi.out
theorem limA_four (n : Nat) : ∃ a b c d : Nat, limA n = #[.int .u64 (a : Int), .int .u64 (b : Int), .int .u64 (c : Int), .int .u64 (d : Int)] := ⟨_, _, _, _, rfl⟩
theorem built_lim (n : Nat) : Tryz.prog.built 44 [(0, .agg (limA n))] = some (limA n) := by
 obtain ⟨x0, x1, x2, x3, hx⟩ := limA_four n
 rw [hx]
 kernel_rfl
theorem wpList_build_to {P : Program} {ops : Array Oper} {rest : List Oper} {o : Oper} {a : Act} {w : World} {Q : Exit → Act → World → Prop} (hg : o.guard = none) (t : TypeId) (parts : Array (Nat × Operand)) (ho : o.op = .build t parts)
  (vals : List (Nat × Value)) (hv : (parts.map fun (i, x) => (i, a.eval x)).toList = vals) (cells : Array Value) (hb : P.built t vals = some cells) (h : wpList P ops Q rest (a.put o.dst (.agg cells)) w) : wpList P ops Q (o :: rest) a w :=
 wpList_build hg t parts ho (by rw [hv, hb]; rfl) (by rw [hv, hb]; exact h)
set_option maxHeartbeats 2000000 in
set_option maxRecDepth 100000 in
theorem mul_e (n m : Nat) (hn : n < P) (hm : m < P) (w : World) (hP : PrimeAt w) :
  Calls Tryz.prog 37 #[elemV n, elemV m] w fun e w' => e = .returned (elemV (n * m % P)) ∧ Below w.heap.size w w' := by
 unfold elemV
 obtain ⟨cn, hcn⟩ : ∃ c, Hid (c = limA n) := ⟨_, hid rfl⟩
 obtain ⟨cm, hcm⟩ : ∃ c, Hid (c = limA m) := ⟨_, hid rfl⟩
 rw [← hcn.out, ← hcm.out]
 have HP := hid hP
 clear hP
 go_enter Tryz.func37, Tryz.ntmps37
 go_wp2_with fail
 have hw1 := HP.out.1
 obtain ⟨b1, b2, b3, hb, hsz⟩ := three_blks w cn cm #[.int .u64 0, .int .u64 0, .int .u64 0, .int .u64 0] 44
 generalize ((w.alloc (.cells cn 44)).alloc (.cells cm 44)).alloc (.cells #[.int .u64 0, .int .u64 0, .int .u64 0, .int .u64 0] 44) = W at *
 have hp := HP.out.old hb
 rw [hcn.out] at b1
 rw [hcm.out] at b2
 have B3 := hid b3
 have HB := hid hb
 refine (times_any w.heap.size 0 (w.heap.size + 1) 0 (digs M n 4) (digs M m 4) W (digs_length _ _ _) (limA_all n) (digs_length _ _ _) (limA_all m) b1.limcell (by omega) b2.limcell (by omega) hp).mono ?_
 rintro e w3 ⟨rfl, hb3⟩
 rw [limA_val hn, limA_val hm]
 have hbd := built_lim (n * m % P)
 have hRi := limA_infoE (n * m % P)
 have hR1 := limA_one (n * m % P)
 have hzz : (#[.int .u64 0, .int .u64 0, .int .u64 0, .int .u64 0] : Array Value).size = (limA (n * m % P)).size := by rw [limA_size]; rfl
 obtain ⟨R, hR⟩ : ∃ R, Hid (R = limA (n * m % P)) := ⟨_, hid rfl⟩
 have e : u64s (digs M (n * m % P) 4) = R := by rw [hR.out]; rfl
 rw [e]
 rw [← hR.out] at hbd hRi hR1 hzz
 have HBD := hid hbd
 have HRi := hid hRi
 have HR1 := hid hR1
 have HZ := hid hzz
 have b33 : Hid (Blk w3 (w.heap.size + 2) 44 #[.int .u64 0, .int .u64 0, .int .u64 0, .int .u64 0]) := hid (B3.out.old hb3)
 have hbel : Hid (Below w.heap.size w w3) := hid (HB.out.trans (hb3.mono HB.out.size))
 clear b1 b2 b3 hb hp hb3 e hRi hR1 hzz hbd
 rename_i hK
 refine hK _ _ ?_
 refine wpList_build_to rfl 44 #[(0, .tmp 7)] rfl [(0, .agg R)] (by simp [Act.eval]) R HBD.out ?_
 refine wpList_store_row rfl 44 (.tmp 4) (.tmp 8) rfl (w.heap.size + 2) R rfl rfl 44 _ b33.out HRi.out HZ.out HR1.out ?_
 go_wp2
 refine bodyPost_ret (v := .agg R) ?_ rfl ⟨by rw [hR.out], below_row hbel.out (by omega) _⟩
 exact results_cell_row Tryz.results37 _ _ (w.heap.size + 2) 44 R (0, 0) _ rfl (b33.out.row R) Tryz.underlying44 rfl HRi.out
set_option maxHeartbeats 1000000 in
set_option maxRecDepth 100000 in
theorem same_e (n m : Nat) (hn : n < P) (hm : m < P) (w : World) :
  Calls Tryz.prog 65 #[elemV n, elemV m] w fun e w' => e = .returned (.bool (decide (n = m))) ∧ Below w.heap.size w w' := by
 unfold elemV
 obtain ⟨a0, a1, a2, a3, ha⟩ := limA_four n
 obtain ⟨b0, b1, b2, b3, hb⟩ := limA_four m
 have heq : ∀ W, (binOp .eql 42 (.agg (limA n)) (.agg (limA m))).run Tryz.prog W = .ok (.bool (decide (n = m))) W := fun W => by
  rw [limA, limA, run_eql_u64s (i := default) Tryz.underlying42 _ _ (digs_length _ _ _) (digs_length _ _ _) W]
  have : (digs M n 4 = digs M m 4) ↔ n = m := ⟨fun h => digs_inj h (Nat.lt_trans hn P_lt) (Nat.lt_trans hm P_lt), fun h => by rw [h]⟩
  rw [decide_eq_decide.2 this]
 rw [ha, hb] at heq ⊢
 clear ha hb
 obtain ⟨r, hr⟩ : ∃ r, Hid (r = decide (n = m)) := ⟨_, hid rfl⟩
 rw [← hr.out] at heq ⊢
 have hgd : Tryz.prog.eqGuardType Tryz.prog.depth 42 = false := by kernel_rfl
 go_enter Tryz.func65, Tryz.ntmps65
 go_wp2
 go_ret
 exact ⟨rfl, ((Below.refl _ _).alloc (Nat.le_refl _) _).alloc (by simp) _⟩
set_option maxHeartbeats 400000 in
set_option maxRecDepth 100000 in
theorem odd_e (n : Nat) (w : World) :
  Calls Tryz.prog 46 #[elemV n] w fun e w' => e = .returned (.bool (decide (n % 2 = 1))) ∧ Below w.heap.size w w' := by
 unfold elemV
 have hl : limA n = #[.int .u64 ((n % M : Nat) : Int), .int .u64 ((n / M % M : Nat) : Int), .int .u64 ((n / M / M % M : Nat) : Int), .int .u64 ((n / M / M / M % M : Nat) : Int)] := rfl
 rw [hl]
 clear hl
 obtain ⟨a, ha⟩ := named (n % M)
 rw [← ha.out]
 generalize n / M % M = b
 generalize n / M / M % M = c
 generalize n / M / M / M % M = d
 have hal : a < M := by rw [ha.out]; exact Nat.mod_lt _ (by decide)
 have e1 : bits .and .u64 (a : Int) 1 = ((a % 2 : Nat) : Int) := by
  rw [show (1 : Int) = ((1 : Nat) : Int) from rfl, bits_and_u64_nat _ _ hal (by decide), Nat.and_one_is_mod]
 go_enter Tryz.func46, Tryz.ntmps46
 go_wp2
 go_ret
 refine ⟨ret_bool ?_, (Below.refl _ _).alloc (Nat.le_refl _) _⟩
 have : a % 2 = n % 2 := by rw [ha.out]; unfold M; omega
 rw [Bool.eq_iff_iff]
 simp
 omega
end Go.Proofs.YtcfogpeinjehbaaGreatDoor
end

section
namespace Go.Proofs.YtcfogpeinjehbaaGreatDoor
open Go Go.Proofs Go.RowKit F5
/-- A number's 32 bytes, the lowest first. -/
def fbytes (n : Nat) : List UInt8 := (digs 256 n 32).map UInt8.ofNat
theorem fbytes_length (n : Nat) : (fbytes n).length = 32 := by simp [fbytes, digs_length]
theorem fbytes_get (n i : Nat) (h : i < 32) : ((fbytes n).getD i 0).toNat = n / 256 ^ i % 256 := by
 have e : (fbytes n).getD i 0 = UInt8.ofNat ((digs 256 n 32).getD i 0) := by
  simp only [fbytes, List.getD_eq_getElem?_getD, List.getElem?_map]
  rw [List.getElem?_eq_getElem (by rw [digs_length]; exact h)]; rfl
 rw [e, digs_getD _ _ _ _ h, UInt8.toNat_ofNat']
 omega
theorem fbytes_limb (n k j : Nat) (hj : j < 8) : (n / M ^ k % M) / 2 ^ (j * 8) % 256 = n / 256 ^ (8 * k + j) % 256 := by
 have e1 : (256 : Nat) ^ (8 * k + j) = M ^ k * 256 ^ j := by
  rw [Nat.pow_add, Nat.pow_mul]
 have e2 : (2 : Nat) ^ (j * 8) = 256 ^ j := by rw [Nat.mul_comm, Nat.pow_mul]
 rw [e1, e2, ← Nat.div_div_eq_div_mul]
 generalize n / M ^ k = x
 have e3 : M = 256 ^ j * 256 ^ (8 - j) := by rw [← Nat.pow_add, show j + (8 - j) = 8 by omega]
 rw [e3, Nat.mod_mul_right_div_self]
 obtain ⟨d, hd⟩ : ∃ d, 8 - j = d + 1 := ⟨7 - j, by omega⟩
 rw [hd, Nat.pow_succ, Nat.mod_mul_left_mod]
/-- the first k bytes are told. -/
def partB (l : List UInt8) (k : Nat) : List UInt8 := l.take k ++ List.replicate (32 - k) 0
theorem partB_length {l : List UInt8} {k : Nat} (h : l.length = 32) (hk : k ≤ 32) : (partB l k).length = 32 := by simp [partB]; omega
theorem bytesA_set (l : List UInt8) (k : Nat) (x : UInt8) : (bytesA l).setIfInBounds k (.int .u8 (x.toNat : Int)) = bytesA (l.set k x) := by
 simp [bytesA, Lib.byteCells, List.map_set]
theorem partB_set {l : List UInt8} {k : Nat} (h : l.length = 32) (hk : k < 32) : (partB l k).set k (l.getD k 0) = partB l (k + 1) := by
 unfold partB
 have e1 : (l.take k).length = k := by simp; omega
 rw [List.set_append_right _ _ (by omega), e1, Nat.sub_self, show 32 - k = (32 - (k + 1)) + 1 by omega, List.replicate_succ, List.set_cons_zero]
 have hkl : k < l.length := by omega
 rw [List.take_succ_eq_append_getElem hkl, List.getD_eq_getElem?_getD, List.getElem?_eq_getElem hkl, List.append_assoc]
 rfl
theorem partB_all {l : List UInt8} (h : l.length = 32) : partB l 32 = l := by simp [partB, ← h]
theorem info32 : (Tryz.prog.info? 24).map (·.size) = some 32 := by kernel_rfl
theorem fbytes_info (n : Nat) : (Tryz.prog.info? 24).map (·.size) = some (bytesA (fbytes n)).size := by rw [bytesA_size, fbytes_length]; exact info32
def BytesAt (n : Nat) (w : World) (k : Nat) (wr : World) : Prop :=
 Blk wr w.heap.size 44 (limA n) ∧ Blk wr (w.heap.size + 1) 24 (bytesA (List.replicate 32 0)) ∧ Blk wr (w.heap.size + 2) 24 (bytesA (partB (fbytes n) k)) ∧ Below w.heap.size w wr
set_option maxHeartbeats 2000000 in
set_option maxRecDepth 100000 in
theorem bytes_e (n : Nat) (w : World) : Calls Tryz.prog 45 #[elemV n] w fun e w' => e = .returned (.agg (bytesA (fbytes n))) ∧ Below w.heap.size w w' := by
 have hal : Tryz.prog.arrayLen 42 = 4 := by kernel_rfl
 have hel : Tryz.prog.elem 42 = 40 := by kernel_rfl
 have hal2 : Tryz.prog.arrayLen 24 = 32 := by kernel_rfl
 have hel2 : Tryz.prog.elem 24 = 5 := by kernel_rfl
 unfold elemV
 obtain ⟨cn, hcn⟩ : ∃ c, Hid (c = limA n) := ⟨_, hid rfl⟩
 rw [← hcn.out]
 obtain ⟨z, hz⟩ : ∃ z, Hid (z = bytesA (List.replicate 32 0)) := ⟨_, hid rfl⟩
 have hz0 : ∀ W, (zeroValue 24).run Tryz.prog W = .ok (.agg z) W := by
  rw [hz.out]; exact (zero_of_info (n := 32) (by kernel_rfl)).1
 go_enter Tryz.func45, Tryz.ntmps45
 go_wp2
 go_loopw [4, 5] (fun _ iv wr => ∃ i, i ≤ 32 ∧ iv = .int .i64 (i : Nat) ∧ BytesAt n w i wr) (fun _ iv _ => 32 - (intOf iv).toNat)
 case atStart =>
  refine ⟨0, by omega, rfl, ?_⟩
  obtain ⟨b1, b2, b3, hb, _⟩ := three_blks w cn z z 44
  refine ⟨?_, ?_, ?_, (((Below.refl _ _).alloc (Nat.le_refl _) _).alloc (by simp) _).alloc (by simp; omega) _⟩
  ·rw [← hcn.out]; exact ((Blk.new w _ cn).alloc _).alloc _
  ·rw [← hz.out]
   have := (Blk.new (w.alloc (.cells cn 44)) 24 z).alloc (.cells z 24)
   rwa [show (w.alloc (.cells cn 44)).heap.size = w.heap.size + 1 by simp] at this
  ·have := Blk.new ((w.alloc (.cells cn 44)).alloc (.cells z 24)) 24 z
   rw [show ((w.alloc (.cells cn 44)).alloc (.cells z 24)).heap.size = w.heap.size + 2 by simp] at this
   rw [show partB (fbytes n) 0 = List.replicate 32 0 from rfl, ← hz.out]
   exact this
 case round =>
  obtain ⟨i, hi, rfl, b1, b2, b3, hb⟩ := hrel
  clear hz0
  by_cases hlt : i < 32
  ·obtain ⟨k, hk⟩ : ∃ k, k = i / 8 := ⟨_, rfl⟩
   obtain ⟨j, hj⟩ : ∃ j, j = i % 8 := ⟨_, rfl⟩
   have hij : i = 8 * k + j := by omega
   have hk4 : k < 4 := by omega
   have hj8 : j < 8 := by omega
   have hdiv : (i : Int) / 8 = (k : Int) := by omega
   have hmod : (i : Int) % 8 = (j : Int) := by omega
   have hx : wr.cell? ⟨w.heap.size, k, none⟩ = some (.int .u64 ((n / M ^ k % M : Nat) : Int)) := (b1.cell k).trans (limA_get n k hk4)
   have hbl := fbytes_limb n k j hj8
   rw [← hij, ← fbytes_get n i hlt] at hbl
   obtain ⟨x, hX⟩ := named (n / M ^ k % M)
   rw [← hX.out] at hx hbl
   obtain ⟨y, hY⟩ : ∃ y, Hid (y = (fbytes n).getD i 0) := ⟨_, hid rfl⟩
   rw [← hY.out] at hbl
   have hc : ∃ u, wr.cell? ⟨w.heap.size + 2, i, none⟩ = some u := ⟨_, (b3.cell i).trans (Array.getElem?_eq_getElem (by rw [bytesA_size, partB_length (fbytes_length n) hi]; exact hlt))⟩
   obtain ⟨u, hu⟩ := hc
   have hf := b3.frozen i
   have hsh2 : IntKind.u8.wrap ((x : Int) / 2 ^ (j * 8)) = (y.toNat : Int) := by
    rw [IntKind.wrap_u8', ← hbl]; simp
   have hmin : min (j * 8) 64 = j * 8 := by omega
   have ht : ((j : Int) * 8).toNat = j * 8 := by omega
   have hnext : Hid (BytesAt n w (i + 1) (wr.setCell ⟨w.heap.size + 2, i, none⟩ (.int .u8 (y.toNat : Int)))) := hid (by
    refine ⟨b1.far (by show w.heap.size ≠ w.heap.size + 2; omega) _, b2.far (by show w.heap.size + 1 ≠ w.heap.size + 2; omega) _, ?_, hb.setCell (by show w.heap.size ≤ w.heap.size + 2; omega) _⟩
    have := b3.set_ i (.int .u8 (y.toNat : Int))
    rwa [bytesA_set, hY.out, partB_set (fbytes_length n) hlt, ← hY.out] at this)
   clear b1 b2 b3 hb hk hj hij hbl
   go_wp2
   exact ⟨⟨i + 1, by omega, by go_num, hnext.out⟩, by simp [intOf]; omega⟩
  ·obtain rfl : i = 32 := by omega
   have b3' : Hid (Blk wr (w.heap.size + 2) 24 (bytesA (fbytes n))) := by rw [partB_all (fbytes_length n)] at b3; exact hid b3
   have hRi := hid (fbytes_info n)
   have hR1 : Hid ((bytesA (fbytes n)).all (·.oneCell') = true) := hid (bytesA_one _)
   have hzz : Hid ((bytesA (List.replicate 32 0)).size = (bytesA (fbytes n)).size) := hid (by rw [bytesA_size, bytesA_size, fbytes_length]; rfl)
   have B2 := hid b2
   have HBL := hid hb
   obtain ⟨R, hR⟩ : ∃ R, Hid (R = bytesA (fbytes n)) := ⟨_, hid rfl⟩
   rw [← hR.out] at b3' hRi hR1 hzz
   clear b1 b2 b3 hb
   go_wp2_with (first | (refine wpList_load_row rfl 24 (.tmp 3) rfl (w.heap.size + 2) rfl 24 R (0, 0) _ b3'.out Tryz.underlying24 rfl hRi.out ?_) |
    (refine wpList_store_row rfl 24 (.tmp 2) (.tmp 21) rfl (w.heap.size + 1) R rfl rfl 24 _ B2.out hRi.out hzz.out hR1.out ?_))
   refine bodyPost_ret (v := .agg R) ?_ rfl ⟨by rw [hR.out], below_row HBL.out (by omega) _⟩
   exact results_cell_row Tryz.results45 _ _ (w.heap.size + 1) 24 R (0, 0) _ rfl (B2.out.row R) Tryz.underlying24 rfl hRi.out
end Go.Proofs.YtcfogpeinjehbaaGreatDoor
end

section
namespace Go.Proofs.YtcfogpeinjehbaaGreatDoor
open Go Go.Proofs Go.RowKit F5
/-- A number as 16 limbs. -/
def limF (n : Nat) : Array Value := u64s (digs B n 16)
def refV (n : Nat) : Value := .agg (limF n)
theorem limF_one (n : Nat) : (limF n).all (·.oneCell') = true := u64s_one _
theorem limF_info (n : Nat) : (Tryz.prog.info? 54).map (·.size) = some (limF n).size := u64s_info (digs_length _ _ _)
theorem limF_size (n : Nat) : (limF n).size = 16 := by rw [limF, u64s_size, digs_length]
theorem digs0 : digs B 0 16 = List.replicate 16 0 := by decide +kernel
theorem zero16 : u64s (List.replicate 16 0) = limF 0 := by rw [limF, digs0]
def OfAt (n k m : Nat) (w wr : World) : Prop :=
 m = n / B ^ k ∧ Blk wr (w.heap.size + 1) 54 (u64s (partN (digs B n 16) k)) ∧ Blk wr w.heap.size 54 (limF 0) ∧ Below w.heap.size w wr
set_option maxHeartbeats 2000000 in
set_option maxRecDepth 100000 in
theorem refOf_any (n : Nat) (hn : n < M) (w : World) : Calls Tryz.prog 52 #[.int .u64 (n : Int)] w fun e w' => e = .returned (refV n) ∧ Below w.heap.size w w' := by
 have hal : Tryz.prog.arrayLen 54 = 16 := by kernel_rfl
 have hel : Tryz.prog.elem 54 = 40 := by kernel_rfl
 obtain ⟨z, hz⟩ : ∃ z, Hid (z = limF 0) := ⟨_, hid rfl⟩
 have hz0 : ∀ W, (zeroValue 54).run Tryz.prog W = .ok (.agg z) W := by
  rw [hz.out, ← zero16]; exact (zero_of_info (n := 16) (by kernel_rfl)).1
 have hHN := hid hn
 go_enter Tryz.func52, Tryz.ntmps52
 have hzi : Hid ((Tryz.prog.info? 54).map (·.size) = some z.size) := by rw [hz.out]; exact hid (limF_info 0)
 have hz1 : Hid (z.all (·.oneCell') = true) := by rw [hz.out]; exact hid (limF_one 0)
 go_wp2_with (first | (refine wpList_store_row rfl 54 (.tmp 3) (.tmp 5) rfl (w.heap.size + 1) z rfl rfl 54 z (heap_alloc2_new w _ _) hzi.out rfl hz1.out ?_; rw [setRow_alloc2]))
 go_loopg [0, 4] 4 (fun g nv iv wr => ∃ k m, nv = .int .u64 (m : Nat) ∧ iv = .int .i64 (k : Nat) ∧ g + k = 4 ∧ OfAt n k m w wr)
 case atStart =>
  refine ⟨0, n, rfl, rfl, rfl, by simp, ?_, ?_, ((Below.refl _ _).alloc (Nat.le_refl _) _).alloc (by simp) _⟩
  ·rw [partN_zero, digs_length, zero16, ← hz.out]; exact heap_alloc2_new w _ _
  ·rw [← hz.out]; exact (Blk.new w _ z).alloc _
 case round =>
  obtain ⟨k, m, rfl, rfl, hg, hm, b1, b2, hb⟩ := hrel
  by_cases hlt : k < 4
  ·obtain ⟨q, hq⟩ := named (m / 65536)
   obtain ⟨r, hr⟩ := named (m % 65536)
   have hml : m ≤ 18446744073709551615 := by
    have := Nat.div_le_self n (B ^ k)
    have := hHN.out
    unfold M at this
    omega
   have d1 : (m : Int) / 65536 = (q : Int) := by rw [hq.out]; omega
   have d2 : (m : Int).tdiv 65536 = (q : Int) := by rw [Int.tdiv_eq_ediv_of_nonneg (by omega)]; omega
   have d3 : (m : Int) % 65536 = (r : Int) := by rw [hr.out]; omega
   have d4 : (m : Int).tmod 65536 = (r : Int) := by rw [Int.tmod_eq_emod_of_nonneg (by omega)]; omega
   have wq : IntKind.u64.wrap (q : Int) = (q : Int) := by rw [IntKind.wrap_u64, hq.out]; omega
   have hx := b1.u64 k (by rw [partN_length (by rw [digs_length]; omega), digs_length]; omega)
   have hf := b1.frozen k
   have hn2 : Hid (OfAt n (k + 1) q w (wr.setCell ⟨w.heap.size + 1, k, none⟩ (.int .u64 (r : Int)))) := hid (by
    refine ⟨by rw [hq.out, hm, Nat.div_div_eq_div_mul, ← Nat.pow_succ], ?_, b2.far (by show w.heap.size ≠ w.heap.size + 1; omega) _, hb.setCell (by show w.heap.size ≤ w.heap.size + 1; omega) _⟩
    have := b1.u64set k r
    have e : r = (digs B n 16).getD k 0 := by rw [digs_getD _ _ _ _ (by omega), ← hm, hr.out]
    rw [e, partN_set (by rw [digs_length]; omega)] at this
    rw [e]; exact this)
   obtain ⟨u, hu⟩ := named ((partN (digs B n 16) k).getD k 0)
   rw [← hu.out] at hx
   have HM := hid hm
   clear b1 b2 hb hm
   go_wp2
   go_roundg (gk - 1)
   case measure => omega
   case rel => exact ⟨k + 1, q, rfl, by go_num, by omega, hn2.out⟩
  ·obtain rfl : k = 4 := by omega
   rw [part4 hHN.out] at b1
   have B1 : Hid (Blk wr (w.heap.size + 1) 54 (limF n)) := hid b1
   have B2 := hid b2
   have HBL := hid hb
   have hRi := hid (limF_info n)
   have hR1 := hid (limF_one n)
   have hzz : Hid ((limF 0).size = (limF n).size) := hid (by rw [limF_size, limF_size])
   clear b1 b2 hb hz0 hg
   go_wp2_with (first | (refine wpList_load_row rfl 54 (.tmp 3) rfl (w.heap.size + 1) rfl 54 (limF n) (0, 0) _ B1.out Tryz.underlying54 rfl hRi.out ?_) |
    (refine wpList_store_row rfl 54 (.tmp 2) (.tmp 16) rfl w.heap.size (limF n) rfl rfl 54 _ B2.out hRi.out hzz.out hR1.out ?_))
   refine bodyPost_ret (v := .agg (limF n)) ?_ rfl ⟨rfl, below_row HBL.out (Nat.le_refl _) _⟩
   exact results_cell_row Tryz.results52 _ _ w.heap.size 54 _ (0, 0) _ rfl (B2.out.row _) Tryz.underlying54 rfl hRi.out
theorem own_form_cap {w : World} {base size n : Nat} {e : TypeId} {v : Value} {xs : List Value} (h : w.ownsRow base e size v n xs) : ∃ A c, v = .slice A n c ∧ n ≤ c := by
 rcases h.2 with ⟨h1, h2⟩ | ⟨g, cap, cur, hv, _, _, hc, _⟩
 ·exact ⟨none, 0, by rw [h1, h2], by omega⟩
 ·exact ⟨_, _, hv, hc⟩
theorem reads_two (w : World) (x y : UInt8) : Reads (w.alloc (.cells #[.int .u8 x.toNat, .int .u8 y.toNat] 5)) (w.heap.size + 1) 1 (some ⟨w.heap.size, 0, none⟩) 2 (Lib.byteCells [x, y]) := by
 refine ⟨rfl, fun _ => ⟨_, rfl, by simp, fun j u hj => ?_⟩⟩
 match j, hj with
 | 0, hj =>
  simp [Lib.byteCells] at hj
  subst hj
  show World.cell? _ ⟨w.heap.size, 0, none⟩ = _
  rw [Lib.cell_of_heap (heap_alloc_new w _)]; rfl
 | 1, hj =>
  simp [Lib.byteCells] at hj
  subst hj
  show World.cell? _ ⟨w.heap.size, 1, none⟩ = _
  rw [Lib.cell_of_heap (heap_alloc_new w _)]; rfl
theorem fbytes_two (n i : Nat) (hi : i < 16) : (fbytes n).take (2 * (i + 1)) = (fbytes n).take (2 * i) ++ [(fbytes n).getD (2 * i) 0, (fbytes n).getD (2 * i + 1) 0] := by
 have h1 : 2 * i < (fbytes n).length := by rw [fbytes_length]; omega
 have h2 : 2 * i + 1 < (fbytes n).length := by rw [fbytes_length]; omega
 rw [show 2 * (i + 1) = (2 * i + 1) + 1 by omega, List.take_succ_eq_append_getElem h2, List.take_succ_eq_append_getElem h1, List.append_assoc]
 simp [List.getD, List.getElem?_eq_getElem h1, List.getElem?_eq_getElem h2]
def BytesEnd (n : Nat) (w : World) (e : Ending) (w' : World) : Prop := ∃ v, e = .returned v ∧ w'.ownsRow (w.heap.size + 1) 5 1 v 32 (Lib.byteCells (fbytes n)) ∧ Below w.heap.size w w'
set_option maxHeartbeats 4000000 in
set_option maxRecDepth 100000 in
theorem refBytes_any (n : Nat) (w : World) : Calls Tryz.prog 59 #[refV n] w (BytesEnd n w) := by
 have hal : Tryz.prog.arrayLen 54 = 16 := by kernel_rfl
 have hel : Tryz.prog.elem 54 = 40 := by kernel_rfl
 obtain ⟨i0, hi, hz0, hz1, hz2⟩ := info_parts infoByte
 unfold refV
 obtain ⟨cn, hcn⟩ : ∃ c, Hid (c = limF n) := ⟨_, hid rfl⟩
 rw [← hcn.out]
 have hoe := owns_empty (w.alloc (.cells cn 54))
 rw [show (w.alloc (.cells cn 54)).heap.size = w.heap.size + 1 by simp] at hoe
 go_enter Tryz.func59, Tryz.ntmps59
 go_wp2
 go_loopw [3, 4] (fun v iv wr => ∃ k : Nat, k ≤ 16 ∧ iv = .int .i64 (k : Nat) ∧ wr.ownsRow (w.heap.size + 1) 5 1 v (2 * k) (Lib.byteCells ((fbytes n).take (2 * k))) ∧ Blk wr w.heap.size 54 (limF n) ∧ Below w.heap.size w wr) (fun _ iv _ => 16 - (intOf iv).toNat)
 case atStart => exact ⟨0, Nat.zero_le _, rfl, hoe, by rw [← hcn.out]; exact (Blk.new w _ cn).alloc _, ((Below.refl _ _).alloc (Nat.le_refl _) _).alloc (by simp) _⟩
 case round =>
  obtain ⟨k, hk, rfl, hown, hb1, hbel⟩ := hrel
  clear hoe
  have hsz := hbel.size
  by_cases hlt : k < 16
  ·have hx : wr.cell? ⟨w.heap.size, k, none⟩ = some (.int .u64 (((digs B n 16).getD k 0 : Nat) : Int)) := hb1.u64 k (by rw [digs_length]; exact hlt)
   rw [digs_getD _ _ _ _ hlt, limb_bytes] at hx
   have hy0 := fbytes_get n (2 * k) (by omega)
   have hy1 := fbytes_get n (2 * k + 1) (by omega)
   have HT := hid (fbytes_two n k hlt)
   obtain ⟨y0, hY0⟩ : ∃ y, Hid (y = (fbytes n).getD (2 * k) 0) := ⟨_, hid rfl⟩
   obtain ⟨y1, hY1⟩ : ∃ y, Hid (y = (fbytes n).getD (2 * k + 1) 0) := ⟨_, hid rfl⟩
   rw [← hY0.out] at hy0 HT
   rw [← hY1.out] at hy1 HT
   rw [← hy0, ← hy1] at hx
   have l0 := y0.toNat_lt
   have l1 := y1.toNat_lt
   obtain ⟨x, hX⟩ := named (y0.toNat + 256 * y1.toNat)
   rw [← hX.out] at hx
   obtain ⟨p, hp⟩ := named (x / 256)
   obtain ⟨q, hq⟩ := named (x % 256)
   have d1 : (x : Int) / 256 = (p : Int) := by rw [hp.out]; omega
   have d2 : (x : Int).tdiv 256 = (p : Int) := by rw [Int.tdiv_eq_ediv_of_nonneg (by omega)]; omega
   have d3 : (x : Int) % 256 = (q : Int) := by rw [hq.out]; omega
   have d4 : (x : Int).tmod 256 = (q : Int) := by rw [Int.tmod_eq_emod_of_nonneg (by omega)]; omega
   have w0 : IntKind.u8.wrap (q : Int) = (y0.toNat : Int) := by rw [IntKind.wrap_u8', hq.out, hX.out]; omega
   have w1 : IntKind.u8.wrap (p : Int) = (y1.toNat : Int) := by rw [IntKind.wrap_u8', hp.out, hX.out]; omega
   have w2 : IntKind.u64.wrap (p : Int) = (p : Int) := by rw [IntKind.wrap_u64, hp.out, hX.out]; omega
   have w3 : IntKind.u64.wrap (q : Int) = (q : Int) := by rw [IntKind.wrap_u64, hq.out, hX.out]; omega
   have hrd := reads_two wr y0 y1
   have hwl : Hid (w.heap.size < wr.heap.size) := hid hb1.lt
   have HB1 := hid hb1
   clear hy0 hy1 hb1
   go_wp2_with fail
   go_region_held3 (fun w' => w'.cell? ⟨w.heap.size, k, none⟩ = some (Value.int .u64 (x : Int)))
    (first
     | go_keep
     | (rw [World.cell?_of_block (hgrow1.block w.heap.size (by have := hwl.out; simp; omega) (fun e => by have h9 := (hown.lt _ e.symm).1; omega))]; assumption))
    ((refine step_append_any _ (by rfl) _ _ 22 (by rfl) (w.heap.size + 1) 5 i0 (.int .u8 0) 1 1 Tryz.underlying22 hi hz0 hz1 hz2 rfl (by decide) _ _ _ (by rfl) ((hown.alloc _).drew) (wr.heap.size + 1) _ 2 2 (Lib.byteCells [y0, y1]) (by rfl) (by exact hrd) (Lib.byteCells_one _) (by unfold maxLen; omega) (by omega) (by have := hwl.out; simp; omega) ?_; intro v1 w1 hown1 hgrow1 hat1))
   all_goals
    have hown2 : w1.ownsRow (w.heap.size + 1) 5 1 v1 (2 * (k + 1)) (Lib.byteCells ((fbytes n).take (2 * (k + 1)))) := by
     rw [HT.out, Lib.byteCells_append, show 2 * (k + 1) = 2 * k + 2 by omega]
     exact hown1
    have hbel2 : Below w.heap.size w w1 := ((hbel.alloc hsz _).drew).grown hgrow1 (by simp; omega) (fun k hk => by have := (hown.lt k hk).1; omega)
    have hb2 : Blk w1 w.heap.size 54 (limF n) := ((HB1.out.alloc _).drew).grown hgrow1 (fun e => by have h9 := (hown.lt _ e.symm).1; omega)
    clear hown hown1 hgrow1 hat1 hrd
    go_wp2
    go_roundw
    case rel => exact ⟨k + 1, by omega, by go_num, hown2, hb2, hbel2⟩
    case measure => simp [intOf]; omega
  ·obtain rfl : k = 16 := by omega
   rw [show 2 * 16 = 32 from rfl, List.take_of_length_le (by rw [fbytes_length]; omega)] at hown
   have HO := hid hown
   have HBL := hid hbel
   clear hown hb1 hbel
   go_wp2
   go_ret
   exact ⟨u3, rfl, HO.out, HBL.out⟩
end Go.Proofs.YtcfogpeinjehbaaGreatDoor
end

section
namespace Go.Proofs.YtcfogpeinjehbaaGreatDoor
open Go Go.Proofs Go.RowKit F5
theorem quiet_load_row {P : Program} {o : Oper} {ev : Operand → Value} {w : World} (ty : TypeId) (x : Operand)
  (g : Nat) (hx : ev x = .pointer (some ⟨g, 0, none⟩)) (t : TypeId) (cs : Array Value) (d : TypeDesc) (hg : Blk w g t cs)
  (hu : P.underlying ty = some d) (hd : (match d with | .struct _ | .array _ _ => true | _ => false) = true) (hi : (P.info? ty).map (·.size) = some cs.size) (ho : o.op = .load ty x) :
  (execOp ev o).run P w = .ok (.value (.agg cs)) w := by
 unfold execOp
 simp only [ho, hx, Instr.loadAt, Instr.sureAddr, Sem.run_bind, Sem.run_pure, Result.andThen_ok, run_loadVar_row w g t ty cs (0, 0) d hg hu hd hi]
theorem step_of_wp {P : Program} {ops : Array Oper} {o : Oper} {a : Act} {K : Act → World → Prop} {Q : Exit → Act → World → Prop} {E : Prop} {w : World} (hgd : o.guard = none) (h : Oper.wp P o a w K Q) :
  if Region.wanted o (yielded ops a.tmps) = true then Oper.wp P o a w K Q else E := by
 have hw : Region.wanted o (yielded ops a.tmps) = true := by simp [Region.wanted, hgd]
 rw [if_pos hw]
 exact h
/-- == of two elements of the reference. -/
theorem quiet_eq_F {o : Oper} {ev : Operand → Value} (w : World) (x y : Operand) (k : TypeId) (l l' : List Nat) (hl : l.length = 16) (hl' : l'.length = 16) (hx : ev x = .agg (u64s l)) (hy : ev y = .agg (u64s l'))
  (ho : o.op = .binOp .eql 54 x y k) : (execOp ev o).run Tryz.prog w = .ok (.value (.bool (decide (l = l')))) w := by
 have hg : (eqGuard .eql 54 x y (.agg (u64s l)) (.agg (u64s l'))).run Tryz.prog w = .ok () w := run_eqGuard_agg w .eql _ x y _ _ (by kernel_rfl)
 unfold execOp
 simp only [ho, hx, hy, Sem.run_bind, hg, Result.andThen_ok, run_eql_u64s (i := default) Tryz.underlying54 l l' hl hl' w, Sem.run_pure]
theorem results_row_tmp {fn : Func} {p u : Tmp} {ty : TypeId} {P : Program} (h : fn.results = #[.cell p ty, .tmp u]) (tmps : Array Value) (w : World) (g : Nat) (t : TypeId) (cs : Array Value) (v : Value) (e : TypeId) (n : Nat)
  (hp : tmps.getD p undef = .pointer (some ⟨g, 0, none⟩)) (hv : tmps.getD u undef = v) (hg : Blk w g t cs) (hu : P.underlying ty = some (.array n e)) (hi : (P.info? ty).map (·.size) = some cs.size) :
  (results fn tmps).run P w = .ok (.tuple #[.agg cs, v]) w := by
 rw [results_cell_tmp h, hp, hv]
 have hl := run_loadVar_row w g t ty cs (0, 0) _ hg hu rfl hi
 simp [asAddr, Result.andThen, hl]
theorem digs_eq {n m : Nat} (hn : n < 2 ^ 256) (hm : m < 2 ^ 256) : digs B n 16 = digs B m 16 ↔ n = m := ⟨fun h => digs_inj h (show n < B ^ 16 from hn) (show m < B ^ 16 from hm), fun h => by rw [h]⟩
theorem digs_small (n : Nat) : Small (digs B n 16) := fun j => Nat.le_of_lt (Nat.lt_trans ((digs_all (by decide) n 16 : All B _).getD (by decide) j) (by decide))
theorem digs_val16 {n : Nat} (h : n < 2 ^ 256) : val B (digs B n 16) = n := by rw [val_digs, Nat.mod_eq_of_lt (show n < B ^ 16 from h)]
theorem fit_lim (n : Nat) (hn : n < 2 ^ 256) (w : World) : Calls Tryz.prog 85 #[refV n] w fun e w' => e = .returned (refV (n % P)) ∧ Below w.heap.size w w' := by
 have := fit_any (digs B n 16) (digs_length _ _ _) (digs_small n) w
 rw [digs_val16 hn] at this
 exact this
def RawAt (v k : Nat) (w wr : World) : Prop :=
 Blk wr (w.heap.size + 1) 54 (u64s (partN (digs B v 16) k)) ∧ Blk wr w.heap.size 54 (limF 0) ∧ Below w.heap.size w wr
theorem RawAt.drew {v k : Nat} {w wr : World} (h : RawAt v k w wr) : RawAt v k w wr.drew := ⟨h.1.drew, h.2.1.drew, h.2.2.drew⟩
set_option maxHeartbeats 4000000 in
set_option maxRecDepth 100000 in
theorem raw_any (v : Nat) (hv : v < 2 ^ 256) (ad : Addr) (c : Nat) (w : World) (hr : Reads w w.heap.size 1 (some ad) 32 (Lib.byteCells (fbytes v))) :
  Calls Tryz.prog 68 #[.slice (some ad) 32 c] w fun e w' => e = .returned (.tuple #[refV (v % P), .bool (decide (v < P))]) ∧ Below w.heap.size w w' := by
 have hal : Tryz.prog.arrayLen 54 = 16 := by kernel_rfl
 have hel : Tryz.prog.elem 54 = 40 := by kernel_rfl
 obtain ⟨z, hz⟩ : ∃ z, Hid (z = limF 0) := ⟨_, hid rfl⟩
 have hz0 : ∀ W, (zeroValue 54).run Tryz.prog W = .ok (.agg z) W := by
  rw [hz.out, ← zero16]; exact (zero_of_info (n := 16) (by kernel_rfl)).1
 have hzi : Hid ((Tryz.prog.info? 54).map (·.size) = some z.size) := by rw [hz.out]; exact hid (limF_info 0)
 have hz1 : Hid (z.all (·.oneCell') = true) := by rw [hz.out]; exact hid (limF_one 0)
 have HR := hid hr
 have HV := hid hv
 clear hr hv
 go_enter Tryz.func68, Tryz.ntmps68
 go_wp2_with (first | (refine wpList_store_row rfl 54 (.tmp 4) (.tmp 8) rfl (w.heap.size + 1) z rfl rfl 54 z (heap_alloc2_new w _ _) hzi.out rfl hz1.out ?_; rw [setRow_alloc2]))
 go_loopg [5] 16 (fun g iv wr => ∃ k, iv = .int .i64 (k : Nat) ∧ g + k = 16 ∧ RawAt v k w wr)
 case atStart =>
  refine ⟨0, rfl, rfl, ?_, ?_, ((Below.refl _ _).alloc (Nat.le_refl _) _).alloc (by simp) _⟩
  ·rw [partN_zero, digs_length, zero16, ← hz.out]; exact heap_alloc2_new w _ _
  ·rw [← hz.out]; exact (Blk.new w _ z).alloc _
 case round =>
  obtain ⟨k, rfl, hg, b1, b2, hb⟩ := hrel
  by_cases hlt : k < 16
  ·have hrw := HR.out.below hb
   obtain ⟨ad', hA, hadb, hcell⟩ := hrw.2 (by omega)
   injection hA with hA
   subst hA
   have g0 := hcell (2 * k) _ (show (Lib.byteCells (fbytes v))[2 * k]? = some (.int .u8 (((fbytes v).getD (2 * k) 0).toNat : Int)) by
    have h1 : 2 * k < (fbytes v).length := by rw [fbytes_length]; omega
    simp [Lib.byteCells, List.getD, List.getElem?_eq_getElem h1])
   have g1 := hcell (2 * k + 1) _ (show (Lib.byteCells (fbytes v))[2 * k + 1]? = some (.int .u8 (((fbytes v).getD (2 * k + 1) 0).toNat : Int)) by
    have h1 : 2 * k + 1 < (fbytes v).length := by rw [fbytes_length]; omega
    simp [Lib.byteCells, List.getD, List.getElem?_eq_getElem h1])
   have g1' := g1
   rw [show ad.add (2 * k + 1) = ⟨ad.block, ad.off + (2 * k + 1), none⟩ by unfold Addr.add; rw [if_neg (by omega)]] at g1'
   have hy0 := fbytes_get v (2 * k) (by omega)
   have hy1 := fbytes_get v (2 * k + 1) (by omega)
   have hlb := limb_bytes v k
   rw [← hy0, ← hy1, ← digs_getD B v 16 k hlt] at hlb
   have l0 := ((fbytes v).getD (2 * k) 0).toNat_lt
   have l1 := ((fbytes v).getD (2 * k + 1) 0).toNat_lt
   generalize ((fbytes v).getD (2 * k) 0).toNat = y0 at *
   generalize ((fbytes v).getD (2 * k + 1) 0).toNat = y1 at *
   obtain ⟨x, hX⟩ := named ((digs B v 16).getD k 0)
   rw [← hX.out] at hlb
   have cv0 : IntKind.u64.wrap (y0 : Int) = (y0 : Int) := by rw [IntKind.wrap_u64]; omega
   have cv1 : IntKind.u64.wrap (y1 : Int) = (y1 : Int) := by rw [IntKind.wrap_u64]; omega
   obtain ⟨m, hm⟩ := named (256 * y1)
   have cm : IntKind.u64.wrap (256 * (y1 : Int)) = (m : Int) := by rw [IntKind.wrap_u64, hm.out]; omega
   have cx := wrap_sum y0 m x (by rw [hlb, hm.out]; unfold M; omega)
   have i0 : IntKind.i64.wrap (2 * (k : Int)) = 2 * (k : Int) := IntWalk.i64_in _ (by omega)
   have i1 : IntKind.i64.wrap (2 * (k : Int) + 1) = 2 * (k : Int) + 1 := IntWalk.i64_in _ (by omega)
   have t0 : (2 * (k : Int)).toNat = 2 * k := by omega
   have t1 : (2 * (k : Int) + 1).toNat = 2 * k + 1 := by omega
   have q0 : (0 : Int) ≤ 2 * (k : Int) := by omega
   have q1 : (0 : Int) ≤ 2 * (k : Int) + 1 := by omega
   have q2 : 2 * (k : Int) < 32 := by omega
   have q3 : 2 * (k : Int) + 1 < 32 := by omega
   have hx := b1.u64 k (by rw [partN_length (by rw [digs_length]; omega), digs_length]; omega)
   have hf := b1.frozen k
   have hn2 : Hid (RawAt v (k + 1) w (wr.setCell ⟨w.heap.size + 1, k, none⟩ (.int .u64 (x : Int)))) := hid (by
    refine ⟨?_, b2.far (by show w.heap.size ≠ w.heap.size + 1; omega) _, hb.setCell (by show w.heap.size ≤ w.heap.size + 1; omega) _⟩
    have := b1.u64set k x
    rw [hX.out, partN_set (by rw [digs_length]; omega)] at this
    rw [hX.out]; exact this)
   obtain ⟨u, hu⟩ := named ((partN (digs B v 16) k).getD k 0)
   rw [← hu.out] at hx
   have HLB := hid hlb
   have L0 := hid l0
   have L1 := hid l1
   clear b1 b2 hb hlb hcell hrw hy0 hy1 l0 l1
   go_wp2
   go_region
   have hnd := hid hn2.out.drew
   clear hn2
   go_wp2
   go_roundg (gk - 1)
   case measure => omega
   case rel => exact ⟨k + 1, by go_num, by omega, hnd.out⟩
  ·obtain rfl : k = 16 := by omega
   have e16 : partN (digs B v 16) 16 = digs B v 16 := by
    have := partN_all (digs B v 16)
    rwa [digs_length] at this
   rw [e16] at b1
   have X1 : Hid (Blk wr (w.heap.size + 1) 54 (limF v)) := hid b1
   have B2 := hid b2
   have HBL := hid hb
   have hRi := hid (limF_info v)
   have hR1 := hid (limF_one v)
   have hzz : Hid (z.size = (limF v).size) := hid (by rw [hz.out, limF_size, limF_size])
   have hlt1 := b1.lt
   clear b1 b2 hb hg
   go_wp2_with (first | (refine wpList_load_row rfl 54 (.tmp 4) rfl (w.heap.size + 1) rfl 54 (limF v) (0, 0) _ X1.out Tryz.underlying54 rfl hRi.out ?_) |
    (refine wpList_store_row rfl 54 (.tmp 6) (.tmp 30) rfl wr.heap.size (limF v) rfl rfl 54 z (heap_alloc_new wr _) hRi.out hzz.out hR1.out ?_; rw [setRow_alloc1]) |
    (refine wpList_load_row rfl 54 (.tmp 6) rfl wr.heap.size rfl 54 (limF v) (0, 0) _ (heap_alloc_new wr _) Tryz.underlying54 rfl hRi.out ?_))
   refine (fit_lim v HV.out _).mono ?_
   rintro e w2 ⟨rfl, hb2⟩
   have hb3 : Hid (Below wr.heap.size wr w2) := hid (((Below.refl _ _).alloc (Nat.le_refl _) _).trans (hb2.mono (by simp)))
   have X2 := hid (X1.out.old hb3.out)
   have B22 := hid (B2.out.old hb3.out)
   have hzs2 : Hid (z.size = (limF (v % P)).size) := hid (by rw [hz.out, limF_size, limF_size])
   have hRi2 := hid (limF_info (v % P))
   have hR12 := hid (limF_one (v % P))
   unfold refV
   clear hb2
   go_wp2_with (first | (refine wpList_store_row rfl 54 (.tmp 7) (.tmp 32) rfl w2.heap.size (limF (v % P)) rfl rfl 54 z (heap_alloc_new w2 _) hRi2.out hzs2.out hR12.out ?_; rw [setRow_alloc1]))
   have N3 := Blk.new w2 54 (limF (v % P))
   have X3 := X2.out.alloc (.cells (limF (v % P)) 54)
   have B3 := B22.out.alloc (.cells (limF (v % P)) 54)
   have hb4 : Below w.heap.size w (w2.alloc (.cells (limF (v % P)) 54)) := (HBL.out.trans (hb3.out.mono HBL.out.size)).alloc (by have h1 := HBL.out.size; have h2 := hb3.out.size; omega) _
   generalize w2.alloc (.cells (limF (v % P)) 54) = W3 at *
   have hzz4 : Hid ((limF 0).size = (limF (v % P)).size) := hid (by rw [limF_size, limF_size])
   have hPl : v % P < 2 ^ 256 := Nat.lt_trans (Nat.mod_lt _ (by decide)) (by decide)
   have hdec : decide (digs B (v % P) 16 = digs B v 16) = decide (v < P) := by
    rw [decide_eq_decide, digs_eq hPl HV.out]
    constructor
    ·intro h; rw [← h]; exact Nat.mod_lt _ (by decide)
    ·exact Nat.mod_eq_of_lt
   have HD := hid hdec
   have HB4 := hid hb4
   have BB3 := hid B3
   clear hdec hb4 B3 hPl
   refine wp_region_held_drew (S := fun W => Blk W w2.heap.size 54 (limF (v % P)) ∧ Blk W (w.heap.size + 1) 54 (limF v)) (by kernel_rfl) ⟨N3.drew, X3.drew⟩ (fun hHeld => ?_)
   refine' wpAnyH_take (i := 0) (oi := _) (v := .agg (limF (v % P))) ?hit0 ?hst0 ?hft0 ?hrt0 ?hQt0 ?hyt0 ?hSt0 ?_
   case hit0 => (simp only [zD, zE, zF]; rfl)
   case hst0 | hft0 | hrt0 => kernel_rfl
   case hQt0 => exact fun _ _ _ h => h
   case hSt0 => assumption
   case hyt0 =>
    refine Or.inl ⟨by rfl, ?_⟩
    intro W hS
    exact quiet_load_row 54 (.tmp 7) w2.heap.size rfl 54 (limF (v % P)) _ hS.1 Tryz.underlying54 rfl hRi2.out rfl
   (try simp only [Act.put, zA, zB, zC])
   refine' wpAnyH_take (i := 1) (oi := _) (v := .agg (limF (v % P))) ?hit1 ?hst1 ?hft1 ?hrt1 ?hQt1 ?hyt1 ?hSt1 ?_
   case hit1 => (simp only [zD, zE, zF]; rfl)
   case hst1 | hft1 | hrt1 => kernel_rfl
   case hQt1 => exact fun _ _ _ h => h
   case hSt1 => assumption
   case hyt1 =>
    refine Or.inl ⟨by rfl, ?_⟩
    intro W hS
    exact quiet_load_row 54 (.tmp 7) w2.heap.size rfl 54 (limF (v % P)) _ hS.1 Tryz.underlying54 rfl hRi2.out rfl
   (try simp only [Act.put, zA, zB, zC])
   refine' wpAnyH_take (i := 2) (oi := _) (v := .agg (limF v)) ?hit2 ?hst2 ?hft2 ?hrt2 ?hQt2 ?hyt2 ?hSt2 ?_
   case hit2 => (simp only [zD, zE, zF]; rfl)
   case hst2 | hft2 | hrt2 => kernel_rfl
   case hQt2 => exact fun _ _ _ h => h
   case hSt2 => assumption
   case hyt2 =>
    refine Or.inl ⟨by rfl, ?_⟩
    intro W hS
    exact quiet_load_row 54 (.tmp 4) (w.heap.size + 1) rfl 54 (limF v) _ hS.2 Tryz.underlying54 rfl hRi.out rfl
   (try simp only [Act.put, zA, zB, zC])
   refine' wpAnyH_take (i := 3) (oi := _) (v := .bool (decide (v < P))) ?hit3 ?hst3 ?hft3 ?hrt3 ?hQt3 ?hyt3 ?hSt3 ?_
   case hit3 => (simp only [zD, zE, zF]; rfl)
   case hst3 | hft3 | hrt3 => kernel_rfl
   case hQt3 => exact fun _ _ _ h => h
   case hSt3 => assumption
   case hyt3 =>
    refine Or.inl ⟨by rfl, ?_⟩
    intro W hS
    rw [← HD.out]; exact quiet_eq_F W (.tmp 34) (.tmp 35) 54 _ _ (digs_length _ _ _) (digs_length _ _ _) rfl rfl rfl
   (try simp only [Act.put, zA, zB, zC])
   refine wpAnyH_ready (rs := [4]) (by kernel_rfl) (by simp) ?_
   refine' AllReadyH.cons (o := _) ?hir4 (fun K hK => ?_) AllReadyH.nil
   case hir4 => (simp only [zD, zE, zF]; rfl)
   refine step_of_wp rfl ?_
   refine wp_store_row 54 (.tmp 2) (.tmp 33) rfl w.heap.size (limF (v % P)) rfl rfl 54 (limF 0) BB3.out.drew hRi2.out hzz4.out hR12.out ?_
   refine hK.out _ _ ?_ (fun hHeld => ?_)
   exact ⟨N3.drew.rowFar (by have := HBL.out.size; have := hb3.out.size; omega) _, X3.drew.rowFar (by omega) _⟩
   clear hK K
   (try simp only [Act.put, zA, zB, zC])
   refine' wpAnyH_take (i := 5) (oi := _) (v := _) ?hit5 ?hst5 ?hft5 ?hrt5 ?hQt5 ?hyt5 ?hSt5 ?_
   case hit5 => (simp only [zD, zE, zF]; rfl)
   case hst5 | hft5 | hrt5 => kernel_rfl
   case hQt5 => exact fun _ _ _ h => h
   case hSt5 => assumption
   case hyt5 =>
    refine Or.inl ⟨by rfl, ?_⟩
    intro w hSw
    (try dsimp only at hSw)
    go_simp
    all_goals (with_reducible rfl)
   (try simp only [Act.put, zA, zB, zC])
   refine wpAnyH_done (by kernel_rfl) ?_ _
   have hfin := BB3.out.drew.row (limF (v % P))
   have hbel := hid (below_row (HB4.out.drew) (Nat.le_refl _) (limF (v % P)))
   generalize W3.drew.setRow w.heap.size (limF (v % P)) = W5 at *
   have HFIN := hid hfin
   clear hfin hHeld N3 X3
   go_wp2
   refine bodyPost_ret (v := .tuple #[.agg (limF (v % P)), .bool (decide (v < P))]) ?_ rfl ⟨rfl, hbel.out⟩
   exact results_row_tmp Tryz.results68 _ _ w.heap.size 54 _ _ _ _ rfl rfl HFIN.out Tryz.underlying54 hRi2.out
end Go.Proofs.YtcfogpeinjehbaaGreatDoor
end

section
namespace Go.Proofs.YtcfogpeinjehbaaGreatDoor
open Go Go.Proofs Go.RowKit F5
theorem getd_arith {v i k j : Nat} (hij : i = 8 * k + j) (hj : j < 8) (hk : k < 4) (d : Nat) (hd : d = v / 256 ^ i % 256) :
  (v % 256 ^ i) / M ^ k % M < 2 ^ (8 * j) ∧ (v % 256 ^ i) / M ^ k % M + d * 2 ^ (8 * j) < M ∧
  (digs M (v % 256 ^ i) 4).set k ((v % 256 ^ i) / M ^ k % M + d * 2 ^ (8 * j)) = digs M (v % 256 ^ (i + 1)) 4 := by
 have e1 : (256 : Nat) ^ i = M ^ k * 2 ^ (8 * j) := by
  rw [hij, Nat.pow_add, Nat.pow_mul, show (256 : Nat) ^ 8 = M from rfl, Nat.pow_mul]
 have hp : 0 < M ^ k := Nat.pow_pos (by decide)
 have h1 : (v % 256 ^ i) / M ^ k < 2 ^ (8 * j) := by
  rw [Nat.div_lt_iff_lt_mul hp, Nat.mul_comm, ← e1]
  exact Nat.mod_lt _ (Nat.pow_pos (by decide))
 have hjM : 2 ^ (8 * j) * 256 ≤ M := by
  have : 2 ^ (8 * j) * 256 = 2 ^ (8 * j + 8) := by rw [Nat.pow_add]
  rw [this]
  exact Nat.pow_le_pow_right (by decide) (by omega : 8 * j + 8 ≤ 64)
 have hd2 : d < 256 := by rw [hd]; exact Nat.mod_lt _ (by decide)
 have h2 : (v % 256 ^ i) / M ^ k % M = (v % 256 ^ i) / M ^ k := Nat.mod_eq_of_lt (by
  have : 2 ^ (8 * j) ≤ 2 ^ (8 * j) * 256 := Nat.le_mul_of_pos_right _ (by decide)
  omega)
 have h3 : (v % 256 ^ i) / M ^ k + d * 2 ^ (8 * j) < M := by
  have : d * 2 ^ (8 * j) ≤ 255 * 2 ^ (8 * j) := Nat.mul_le_mul_right _ (by omega)
  omega
 rw [h2]
 refine ⟨h1, h3, ?_⟩
 have hlt : v % 256 ^ i < M ^ 4 := by
  have : (256 : Nat) ^ i ≤ M ^ 4 := by
   rw [show M ^ 4 = 256 ^ 32 by decide]; exact Nat.pow_le_pow_right (by decide) (by omega)
  exact Nat.lt_of_lt_of_le (Nat.mod_lt _ (Nat.pow_pos (by decide))) this
 refine digs_of ((digs_all (by decide) _ _ : All M _).set h3) (by rw [List.length_set, digs_length]) ?_
 have hv := val_set M (digs M (v % 256 ^ i) 4) k ((v % 256 ^ i) / M ^ k + d * 2 ^ (8 * j)) (by rw [digs_length]; exact hk)
 rw [val_digs, Nat.mod_eq_of_lt hlt, digs_getD _ _ _ _ hk, h2, Nat.mul_add] at hv
 have e2 : M ^ k * (d * 2 ^ (8 * j)) = 256 ^ i * d := by rw [e1, Nat.mul_comm d, Nat.mul_assoc]
 rw [e2] at hv
 rw [Nat.pow_succ, Nat.mod_mul, ← hd]
 omega
theorem fbytes_inj {n m : Nat} (hn : n < 2 ^ 256) (hm : m < 2 ^ 256) : fbytes n = fbytes m ↔ n = m := by
 constructor
 ·intro h
  have h2 : digs 256 n 32 = digs 256 m 32 := by
   apply List.ext_getElem?
   intro i
   by_cases hi : i < 32
   ·have e : ((fbytes n).getD i 0).toNat = ((fbytes m).getD i 0).toNat := by rw [h]
    rw [fbytes_get _ _ hi, fbytes_get _ _ hi, ← digs_getD 256 n 32 i hi, ← digs_getD 256 m 32 i hi] at e
    rw [List.getD_eq_getElem?_getD, List.getD_eq_getElem?_getD, List.getElem?_eq_getElem (by rw [digs_length]; exact hi), List.getElem?_eq_getElem (by rw [digs_length]; exact hi)] at e
    rw [List.getElem?_eq_getElem (by rw [digs_length]; exact hi), List.getElem?_eq_getElem (by rw [digs_length]; exact hi)]
    simpa using e
   ·rw [List.getElem?_eq_none (by rw [digs_length]; omega), List.getElem?_eq_none (by rw [digs_length]; omega)]
  exact digs_inj h2 (show n < 256 ^ 32 from hn) (show m < 256 ^ 32 from hm)
 ·rintro rfl; rfl
/-- Any 32 bytes are a number's. -/
theorem fbytes_of (l : List UInt8) (h : l.length = 32) : ∃ v, v < 2 ^ 256 ∧ l = fbytes v := by
 have ha : All 256 (l.map UInt8.toNat) := fun x hx => by
  obtain ⟨b, _, rfl⟩ := List.mem_map.1 hx
  exact b.toNat_lt
 refine ⟨val 256 (l.map UInt8.toNat), ?_, ?_⟩
 ·have := val_lt _ ha
  rwa [List.length_map, h] at this
 ·have hd := digs_val _ ha
  rw [List.length_map, h] at hd
  unfold fbytes
  rw [hd, List.map_map]
  have : (UInt8.ofNat ∘ UInt8.toNat) = id := by funext x; simp
  rw [this, List.map_id]
def GetAt (v i : Nat) (w wr : World) : Prop :=
 Blk wr (w.heap.size + 1) 42 (limA (v % 256 ^ i)) ∧ Blk wr w.heap.size 44 (limA 0) ∧ Below w.heap.size w wr
theorem GetAt.drew {v i : Nat} {w wr : World} (h : GetAt v i w wr) : GetAt v i w wr.drew := ⟨h.1.drew, h.2.1.drew, h.2.2.drew⟩
theorem arr32 (p : Option Addr) (n c : Nat) (hn : 32 ≤ n) (W : World) : (Instr.arrayAt 24 (.slice p n c)).run Tryz.prog W = .ok (.pointer p) W := run_arrayAt W _ _ 32 p n c Tryz.underlying24 hn
theorem run_loadVar_add {P : Program} (w : World) (ad : Addr) (t e : TypeId) (n : Nat) (cs : Array Value) (hu : P.underlying t = some (.array n e)) (hi : (P.info? t).map (·.size) = some cs.size)
  (hc : ∀ j v, cs[j]? = some v → w.cell? (ad.add j) = some v) : (loadVar t ad).run P w = .ok (.agg cs) w := by
 have hl : (loadCells ad cs.toList.length).run P w = .ok cs.toList.toArray w := run_loadCells_list (P := P) w ad cs.toList (fun j v hv => hc j v (by simpa using hv))
 cases hq : P.info? t with
 | none => simp [hq] at hi
 | some i =>
  have hs : i.size = cs.size := by simpa [hq] using hi
  have hagg : (isAgg t).run P w = .ok true w := by
   unfold isAgg
   rw [Sem.run_bind, run_underlying hu w]
   simp [Result.andThen]
  simp only [Array.length_toList, Array.toArray_toList] at hl
  simp [loadVar, Sem.run_bind, hagg, sizeOf, typeInfo, hq, hs, hl, Result.andThen]
theorem quiet_load_add {P : Program} {o : Oper} {ev : Operand → Value} {w : World} (t : TypeId) (x : Operand) (ad : Addr) (hx : ev x = .pointer (some ad)) (e : TypeId) (n : Nat) (cs : Array Value)
  (hu : P.underlying t = some (.array n e)) (hi : (P.info? t).map (·.size) = some cs.size) (hc : ∀ j v, cs[j]? = some v → w.cell? (ad.add j) = some v) (ho : o.op = .load t x) : (execOp ev o).run P w = .ok (.value (.agg cs)) w := by
 unfold execOp
 simp only [ho, hx, Instr.loadAt, Instr.sureAddr, Sem.run_bind, Sem.run_pure, Result.andThen_ok, run_loadVar_add w ad t e n cs hu hi hc]
theorem results_row_tmp1 {fn : Func} {p u : Tmp} {ty : TypeId} {P : Program} (h : fn.results = #[.cell p ty, .tmp u]) (tmps : Array Value) (w : World) (g : Nat) (t : TypeId) (cs : Array Value) (v : Value) (l : Array Field)
  (hp : tmps.getD p undef = .pointer (some ⟨g, 0, none⟩)) (hv : tmps.getD u undef = v) (hg : Blk w g t cs) (hu : P.underlying ty = some (.struct l)) (hi : (P.info? ty).map (·.size) = some cs.size) :
  (results fn tmps).run P w = .ok (.tuple #[.agg cs, v]) w := by
 rw [results_cell_tmp h, hp, hv]
 have hl := run_loadVar_row w g t ty cs (0, 0) _ hg hu rfl hi
 simp [asAddr, Result.andThen, hl]
theorem quiet_neq_bytes {o : Oper} {ev : Operand → Value} (w : World) (x y : Operand) (k : TypeId) (l l' : List UInt8) (hl : l.length = 32) (hl' : l'.length = 32) (hx : ev x = .agg (bytesA l)) (hy : ev y = .agg (bytesA l'))
  (ho : o.op = .binOp .neq 24 x y k) : (execOp ev o).run Tryz.prog w = .ok (.value (.bool (!decide (l = l')))) w := by
 have hg : (eqGuard .neq 24 x y (.agg (bytesA l)) (.agg (bytesA l'))).run Tryz.prog w = .ok () w := run_eqGuard_agg w .neq _ x y _ _ (by kernel_rfl)
 unfold execOp
 simp only [ho, hx, hy, Sem.run_bind, hg, Result.andThen_ok, run_neq_bytes Tryz.underlying24 l l' hl hl' w, Sem.run_pure]
set_option maxHeartbeats 4000000 in
set_option maxRecDepth 100000 in
theorem get_32 (v : Nat) (hv : v < 2 ^ 256) (ad : Addr) (c : Nat) (w : World) (hr : Reads w w.heap.size 1 (some ad) 32 (Lib.byteCells (fbytes v))) (hP : PrimeAt w) :
  Calls Tryz.prog 64 #[.slice (some ad) 32 c] w fun e w' => e = .returned (.tuple #[elemV (if v < P then v else 0), .int .i64 (if v < P then 0 else 6)]) ∧ Below w.heap.size w w' := by
 have hal : Tryz.prog.arrayLen 42 = 4 := by kernel_rfl
 have hel : Tryz.prog.elem 42 = 40 := by kernel_rfl
 have HR := hid hr
 have HV := hid hv
 have HP := hid hP
 clear hr hv hP
 go_enter Tryz.func64, Tryz.ntmps64
 go_wp2
 go_loopg [5, 6, 18] 32 (fun g _ _ iv wr => ∃ i, iv = .int .i64 (i : Nat) ∧ g + i = 32 ∧ GetAt v i w wr)
 case atStart =>
  refine ⟨0, rfl, rfl, ?_, (Blk.new w _ (limA 0)).alloc _, ((Below.refl _ _).alloc (Nat.le_refl _) _).alloc (by simp) _⟩
  rw [Nat.pow_zero, Nat.mod_one]
  have := Blk.new (w.alloc (.cells (limA 0) 44)) 42 (limA 0)
  rwa [show (w.alloc (.cells (limA 0) 44)).heap.size = w.heap.size + 1 by simp] at this
 case round =>
  obtain ⟨i, rfl, hg, b1, b2, hb⟩ := hrel
  by_cases hlt : i < 32
  ·have hrw := HR.out.below hb
   obtain ⟨ad', hA, hadb, hcell⟩ := hrw.2 (by omega)
   injection hA with hA
   subst hA
   have g0 := hcell i _ (show (Lib.byteCells (fbytes v))[i]? = some (.int .u8 (((fbytes v).getD i 0).toNat : Int)) by
    have h1 : i < (fbytes v).length := by rw [fbytes_length]; omega
    simp [Lib.byteCells, List.getD, List.getElem?_eq_getElem h1])
   obtain ⟨d, hd⟩ := named ((fbytes v).getD i 0).toNat
   have hdl : d < 256 := by rw [hd.out]; exact ((fbytes v).getD i 0).toNat_lt
   have hdv : d = v / 256 ^ i % 256 := by rw [hd.out, fbytes_get _ _ hlt]
   rw [← hd.out] at g0
   obtain ⟨k, hk⟩ : ∃ k, k = i / 8 := ⟨_, rfl⟩
   obtain ⟨j, hj⟩ : ∃ j, j = i % 8 := ⟨_, rfl⟩
   have hij : i = 8 * k + j := by omega
   have hk4 : k < 4 := by omega
   have hj8 : j < 8 := by omega
   have hdiv : (i : Int) / 8 = (k : Int) := by omega
   have hmod : (i : Int) % 8 = (j : Int) := by omega
   obtain ⟨a1, a2, a3⟩ := getd_arith hij hj8 hk4 d hdv
   have hx : wr.cell? ⟨w.heap.size + 1, k, none⟩ = some (.int .u64 (((v % 256 ^ i) / M ^ k % M : Nat) : Int)) := (b1.cell k).trans (limA_get _ _ hk4)
   have hf := b1.frozen k
   obtain ⟨x, hX⟩ := named ((v % 256 ^ i) / M ^ k % M)
   rw [← hX.out] at a1 a2 a3 hx
   obtain ⟨s, hs⟩ := named (d * 2 ^ (8 * j))
   rw [← hs.out] at a2 a3
   have hxs : x + s < M := a2
   obtain ⟨y, hY⟩ := named (x + s)
   rw [← hY.out] at a2 a3
   have hor : bits .or .u64 (x : Int) (s : Int) = (y : Int) := by
    rw [bits_or_u64_nat _ _ (by unfold M at hxs; omega) (by unfold M at hxs; omega), hY.out, hs.out]
    congr 1
    rw [Nat.or_comm, Nat.mul_comm d, Nat.add_comm]
    exact (Nat.two_pow_add_eq_or_of_lt a1 d).symm
   have hsh : IntKind.u64.wrap ((d : Int) * 2 ^ (j * 8)) = (s : Int) := by
    rw [IntKind.wrap_u64, hs.out]
    have : d * 2 ^ (8 * j) < 18446744073709551616 := by rw [← hs.out]; unfold M at hxs; omega
    rw [show ((d : Int) * 2 ^ (j * 8)) = ((d * 2 ^ (8 * j) : Nat) : Int) by rw [Nat.mul_comm 8 j]; simp]
    omega
   have hmin : min (j * 8) 64 = j * 8 := by omega
   have ht : ((j : Int) * 8).toNat = j * 8 := by omega
   have hcv : IntKind.u64.wrap (d : Int) = (d : Int) := by rw [IntKind.wrap_u64]; omega
   have hn2 : Hid (GetAt v (i + 1) w (wr.setCell ⟨w.heap.size + 1, k, none⟩ (.int .u64 (y : Int)))) := hid (by
    refine ⟨?_, b2.far (by show w.heap.size ≠ w.heap.size + 1; omega) _, hb.setCell (by show w.heap.size ≤ w.heap.size + 1; omega) _⟩
    have := Blk.set_ b1 k (.int .u64 (y : Int))
    rw [limA, u64s_set, a3] at this
    exact this)
   have HA1 := hid a1
   have HA2 := hid a2
   clear b1 b2 hb hcell hrw hk hj hij a1 a2 a3 hdv hdl hxs
   go_wp2
   go_region
   have hnd := hid hn2.out.drew
   clear hn2
   go_wp2
   go_roundg (gk - 1)
   case measure => omega
   case rel => exact ⟨i + 1, by go_num, by omega, hnd.out⟩
  ·obtain rfl : i = 32 := by omega
   rw [Nat.mod_eq_of_lt (show v < 256 ^ 32 from HV.out)] at b1
   have B1 := hid b1
   have B2 := hid b2
   have HBL := hid hb
   have hsz := b1.lt
   have hRi := hid (limA_info v)
   have hRe := hid (limA_infoE v)
   have hR1 := hid (limA_one v)
   have hBD := hid (built_lim v)
   have hzz : Hid ((#[.int .u64 0, .int .u64 0, .int .u64 0, .int .u64 0] : Array Value).size = (limA v).size) := hid (by rw [limA_size]; rfl)
   clear b1 b2 hb hg
   go_wp2_with (first | (refine wpList_load_row rfl 42 (.tmp 4) rfl (w.heap.size + 1) rfl 42 (limA v) (0, 0) _ B1.out Tryz.underlying42 rfl hRi.out ?_) |
    (refine wpList_build_to rfl 44 #[(0, .tmp 36)] rfl [(0, .agg (limA v))] (by simp [Act.eval, Act.put]) (limA v) hBD.out ?_) |
    (refine wpList_store_row rfl 44 (.tmp 7) (.tmp 37) rfl wr.heap.size (limA v) rfl rfl 44 _ (heap_alloc_new wr _) hRe.out hzz.out hR1.out ?_; rw [setRow_alloc1]))
   have hB4 := (Blk.new wr 44 (limA v)).nilmid
   have hp4 := (HP.out.old HBL.out).old ((Below.refl wr.heap.size wr).alloc (Nat.le_refl _) (.cells (limA v) 44))
   refine (round_any wr.heap.size 0 44 [] (digs M v 4) [] _ hB4 rfl (digs_length _ _ _) (limA_all v) (by have := HP.out.1; omega) hp4).mono ?_
   rintro e w5 ⟨rfl, hB5, hg5⟩
   rw [val_digs, Nat.mod_eq_of_lt (show v < M ^ 4 from HV.out), subP_P (show v < M ^ 4 from HV.out), nil_mid] at hB5
   obtain ⟨u, hu⟩ := named (if P ≤ v then v - P else v)
   rw [← hu.out] at hB5
   have B5 : Hid (Blk w5 wr.heap.size 44 (limA u)) := hid hB5
   have hb5 : Below wr.heap.size wr w5 := ((Below.refl _ _).alloc (Nat.le_refl _) _).grown hg5 (by simp) (fun k hk => by injection hk with hk; omega)
   have HB5 : Hid (Below w.heap.size w w5) := hid (HBL.out.trans (hb5.mono HBL.out.size))
   have B25 := hid (B2.out.old hb5)
   have hszr := hid hsz
   have hul : u < 2 ^ 256 := by rw [hu.out]; have := HV.out; split <;> omega
   have huv : (fbytes u = fbytes v) ↔ v < P := by
    rw [fbytes_inj hul HV.out, hu.out]
    split <;> (have : 0 < P := by decide) <;> omega
   have HUV := hid huv
   have HUL := hid hul
   clear hB4 hp4 hB5 hg5 hb5 hul huv hsz
   go_wp2_with fail
   have harr := arr32 (some ad) 32 c (by omega)
   have hcells : Hid (∀ W, Below w5.heap.size w5 W → ∀ j v', (bytesA (fbytes v))[j]? = some v' → W.cell? (ad.add j) = some v') := hid (by
    intro W hW j v' hj
    have hrw := (HR.out.below HB5.out).more HB5.out.size
    obtain ⟨ad', hA, hadb, hcell⟩ := (hrw.below hW).2 (by omega)
    injection hA with hA
    subst hA
    exact hcell j v' (by rw [bytesA, List.getElem?_toArray] at hj; exact hj))
   have hRu := hid (limA_infoE u)
   have hbd : Below w5.heap.size w5 w5.drew := (Below.refl _ _).drew
   refine wp_region_held_drew (S := fun W => Below w5.heap.size w5 W) (by kernel_rfl) hbd (fun hHeld => ?_)
   refine' wpAnyH_take (i := 0) (oi := _) (v := .agg (limA u)) ?hit0 ?hst0 ?hft0 ?hrt0 ?hQt0 ?hyt0 ?hSt0 ?_
   case hit0 => (simp only [zD, zE, zF]; rfl)
   case hst0 | hft0 | hrt0 => kernel_rfl
   case hQt0 => exact fun _ _ _ h => h
   case hSt0 => assumption
   case hyt0 =>
    refine Or.inl ⟨by rfl, ?_⟩
    intro W hS
    exact quiet_load_row 44 (.tmp 7) wr.heap.size rfl 44 (limA u) _ (B5.out.old hS) Tryz.underlying44 rfl hRu.out rfl
   (try simp only [Act.put, zA, zB, zC])
   refine' wpAnyH_take (i := 2) (oi := _) (v := _) ?hit2 ?hst2 ?hft2 ?hrt2 ?hQt2 ?hyt2 ?hSt2 ?_
   case hit2 => (simp only [zD, zE, zF]; rfl)
   case hst2 | hft2 | hrt2 => kernel_rfl
   case hQt2 => exact fun _ _ _ h => h
   case hSt2 => assumption
   case hyt2 =>
    refine Or.inl ⟨by rfl, ?_⟩
    intro w hSw
    (try dsimp only at hSw)
    go_simp
    all_goals (with_reducible rfl)
   (try simp only [Act.put, zA, zB, zC])
   refine' wpAnyH_take (i := 3) (oi := _) (v := _) ?hit3 ?hst3 ?hft3 ?hrt3 ?hQt3 ?hyt3 ?hSt3 ?_
   case hit3 => (simp only [zD, zE, zF]; rfl)
   case hst3 | hft3 | hrt3 => kernel_rfl
   case hQt3 => exact fun _ _ _ h => h
   case hSt3 => assumption
   case hyt3 =>
    refine Or.inl ⟨by rfl, ?_⟩
    intro w hSw
    (try dsimp only at hSw)
    go_simp
    all_goals (with_reducible rfl)
   (try simp only [Act.put, zA, zB, zC])
   refine' wpAnyH_take (i := 4) (oi := _) (v := .agg (bytesA (fbytes v))) ?hit4 ?hst4 ?hft4 ?hrt4 ?hQt4 ?hyt4 ?hSt4 ?_
   case hit4 => (simp only [zD, zE, zF]; rfl)
   case hst4 | hft4 | hrt4 => kernel_rfl
   case hQt4 => exact fun _ _ _ h => h
   case hSt4 => assumption
   case hyt4 =>
    refine Or.inl ⟨by rfl, ?_⟩
    intro W hS
    exact quiet_load_add 24 (.tmp 43) ad rfl _ _ (bytesA (fbytes v)) Tryz.underlying24 (fbytes_info v) (hcells.out _ hS) rfl
   (try simp only [Act.put, zA, zB, zC])
   refine wpAnyH_ready (rs := [1]) (by kernel_rfl) (by simp) ?_
   refine' AllReadyH.cons (o := _) ?hir1 (fun K hK => ?_) AllReadyH.nil
   case hir1 => (simp only [zD, zE, zF]; rfl)
   go_simp
   go_at_call 45
   refine (bytes_e u _).mono ?_
   rintro e w6 ⟨rfl, hb6⟩
   refine hK.out _ _ ?_ (fun hHeld => ?_)
   exact hbd.trans (hb6.mono hbd.size)
   clear hK K
   (try simp only [Act.put, zA, zB, zC])
   refine' wpAnyH_take (i := 5) (oi := _) (v := .bool (!decide (fbytes u = fbytes v))) ?hit5 ?hst5 ?hft5 ?hrt5 ?hQt5 ?hyt5 ?hSt5 ?_
   case hit5 => (simp only [zD, zE, zF]; rfl)
   case hst5 | hft5 | hrt5 => kernel_rfl
   case hQt5 => exact fun _ _ _ h => h
   case hSt5 => assumption
   case hyt5 =>
    refine Or.inl ⟨by rfl, ?_⟩
    intro W hS
    exact quiet_neq_bytes W (.tmp 41) (.tmp 44) 24 _ _ (fbytes_length _) (fbytes_length _) rfl rfl rfl
   (try simp only [Act.put, zA, zB, zC])
   refine wpAnyH_done (by kernel_rfl) ?_ _
   have hb6' := HB5.out.trans ((hbd.trans (hb6.mono hbd.size)).mono HB5.out.size)
   have B26 := hid (B25.out.old (hbd.trans (hb6.mono hbd.size)))
   have B56 := hid (B5.out.old (hbd.trans (hb6.mono hbd.size)))
   have HB6 := hid hb6'
   clear hb6' hb6 hbd hHeld
   have hz4 : Hid ((limA 0).size = (limA u).size) := hid (by rw [limA_size, limA_size])
   have hu1 := hid (limA_one u)
   by_cases hvP : v < P
   ·have he : decide (fbytes u = fbytes v) = true := by rw [decide_eq_true_eq]; exact HUV.out.2 hvP
    rw [he]
    have huv : Hid (u = v) := hid (by rw [hu.out, if_neg (by omega)])
    go_wp2_with (first | (refine wpList_load_row rfl 44 (.tmp 7) rfl wr.heap.size rfl 44 (limA u) (0, 0) _ B56.out Tryz.underlying44 rfl hRu.out ?_) |
     (refine wpList_store_row rfl 44 (.tmp 2) (.tmp 47) rfl w.heap.size (limA u) rfl rfl 44 _ B26.out hRu.out hz4.out hu1.out ?_))
    refine bodyPost_ret (v := .tuple #[.agg (limA u), .int .i64 0]) ?_ rfl ⟨by rw [huv.out]; rfl, below_row HB6.out (Nat.le_refl _) _⟩
    exact results_row_tmp1 Tryz.results64 _ _ w.heap.size 44 _ _ _ rfl rfl (B26.out.row _) Tryz.underlying44 hRu.out
   ·have he : decide (fbytes u = fbytes v) = false := by rw [decide_eq_false_iff_not]; exact fun h => hvP (HUV.out.1 h)
    rw [he]
    go_wp2_with (first | (refine wpList_store_row rfl 44 (.tmp 2) (.tmp 46) rfl w.heap.size (limA 0) rfl rfl 44 _ B26.out (limA_infoE 0) rfl (limA_one 0) ?_))
    refine bodyPost_ret (v := .tuple #[.agg (limA 0), .int .i64 6]) ?_ rfl ⟨rfl, below_row HB6.out (Nat.le_refl _) _⟩
    exact results_row_tmp1 Tryz.results64 _ _ w.heap.size 44 _ _ _ rfl rfl (B26.out.row _) Tryz.underlying44 (limA_infoE 0)
end Go.Proofs.YtcfogpeinjehbaaGreatDoor
end

section
namespace Go.Proofs.YtcfogpeinjehbaaGreatDoor
open Go Go.Proofs Go.RowKit F5
theorem slice32 (g : Nat) (W : World) : (Instr.sliceAt 24 (.pointer (some ⟨g, 0, none⟩)) none none none).run Tryz.prog W = .ok (.slice (some ⟨g, 0, none⟩) 32 32) W := by
 have hal : Tryz.prog.arrayLen 24 = 32 := by kernel_rfl
 have hel : Tryz.prog.elem 24 = 5 := by kernel_rfl
 rw [run_sliceAt_array_all W 24 ⟨g, 0, none⟩ (by rw [hal, hel]; exact Tryz.underlying24), hal, hel, Tryz.sizeOf5]
 rfl
theorem reads_blk {w : World} {g t : Nat} {l : List UInt8} (h : Blk w g t (bytesA l)) : Reads w w.heap.size 1 (some ⟨g, 0, none⟩) l.length (Lib.byteCells l) := by
 refine ⟨by simp [Lib.byteCells_length], fun _ => ⟨_, rfl, h.lt, fun j u hj => ?_⟩⟩
 have e : (⟨g, 0, none⟩ : Addr).add j = ⟨g, j, none⟩ := by unfold Addr.add; split <;> simp_all
 rw [e, h.cell, bytesA, List.getElem?_toArray]
 exact hj
theorem quiet_back {o : Oper} {ev : Operand → Value} {w : World} (x : Operand) (A : Option Addr) (n c B : Nat) (l : List UInt8) (hx : ev x = .slice A n c) (hr : Reads w B 1 A n (Lib.byteCells l)) (ho : o.op = .convert 22 9 x) :
  (execOp ev o).run Tryz.prog w = .ok (.value (.string ⟨l.toArray⟩)) w := by
 unfold execOp
 simp only [ho, hx, Sem.run_bind, run_back hr, Result.andThen_ok, Sem.run_pure]
theorem wp_back {o : Oper} {a : Act} {w : World} {K : Act → World → Prop} {Q : Exit → Act → World → Prop} (x : Operand) (A : Option Addr) (n c B : Nat) (l : List UInt8) (hx : a.eval x = .slice A n c) (hr : Reads w B 1 A n (Lib.byteCells l)) (ho : o.op = .convert 22 9 x)
  (h : K (a.put o.dst (.string ⟨l.toArray⟩)) w) : o.wp Tryz.prog a w K Q := by
 unfold Oper.wp execOp
 simp only [ho, hx, Sem.run_bind, run_back hr, Result.andThen_ok, Sem.run_pure]
 exact h
end Go.Proofs.YtcfogpeinjehbaaGreatDoor
end

section
namespace F5
theorem mod_next (x k : Nat) : x % B ^ (k + 1) = x % B ^ k + B ^ k * (x / B ^ k % B) := by
 rw [Nat.pow_succ, Nat.mod_mul]
theorem lim_lt (x k : Nat) : x / B ^ k % B < B := Nat.mod_lt _ (by decide)
theorem mod_full {x : Nat} (h : x < 2 ^ 256) : x % B ^ 16 = x := Nat.mod_eq_of_lt (show x < B ^ 16 from h)
theorem digs_at {x k : Nat} (h : k < 16) : (digs B x 16).getD k 0 = x / B ^ k % B := digs_getD _ _ _ _ h
theorem val16 {x : Nat} (h : x < 2 ^ 256) : val B (digs B x 16) = x := by rw [val_digs, mod_full h]
/-- The sum, its first k limbs done. -/
def AddL (x y k : Nat) (L : List Nat) : Prop :=
 L.length = 16 ∧ (∀ j, L.getD j 0 ≤ 131070) ∧ (∀ j, k ≤ j → j < 16 → L.getD j 0 = x / B ^ j % B) ∧ val B L = x + y % B ^ k
theorem AddL.zero {x y : Nat} (hx : x < 2 ^ 256) : AddL x y 0 (digs B x 16) :=
 ⟨digs_length _ _ _, fun j => by have := (digs_all (show 0 < B by decide) x 16).getD (by decide) j; unfold B at *; omega, fun j _ h => digs_at h, by rw [val16 hx]; simp [Nat.mod_one]⟩
theorem AddL.next {x y k : Nat} {L : List Nat} (h : AddL x y k L) (hk : k < 16) : AddL x y (k + 1) (L.set k (L.getD k 0 + y / B ^ k % B)) := by
 obtain ⟨h1, h2, h3, h4⟩ := h
 have ha := h3 k (Nat.le_refl _) hk
 have hxl := lim_lt x k
 have hyl := lim_lt y k
 refine ⟨by simpa using h1, fun j => ?_, fun j hj hj2 => by rw [getD_set_ne _ _ (by omega), h3 j (by omega) hj2], ?_⟩
 ·by_cases e : k = j
  ·subst e
   rw [getD_set_eq _ _ (by omega)]
   unfold B at *; omega
  ·rw [getD_set_ne _ _ e]; exact h2 j
 ·have hs := val_set B L k (L.getD k 0 + y / B ^ k % B) (by omega)
  rw [mod_next]
  rw [Nat.mul_add] at hs
  omega
theorem AddL.done {x y : Nat} {L : List Nat} (h : AddL x y 16 L) (hy : y < 2 ^ 256) : L.length = 16 ∧ Small L ∧ val B L = x + y := by
 obtain ⟨h1, h2, _, h4⟩ := h
 rw [mod_full hy] at h4
 exact ⟨h1, fun j => Nat.le_trans (h2 j) (by decide), h4⟩
/-- p less a number, its first k limbs done; b is borrowed. -/
def NegL (x k b : Nat) (L : List Nat) : Prop :=
 L.length = 16 ∧ All B L ∧ (∀ j, k ≤ j → j < 16 → L.getD j 0 = x / B ^ j % B) ∧ b ≤ 1 ∧ val B L + 2 * (x % B ^ k) = P % B ^ k + B ^ k * b + x
theorem NegL.zero {x : Nat} (hx : x < 2 ^ 256) : NegL x 0 0 (digs B x 16) :=
 ⟨digs_length _ _ _, digs_all (by decide) _ _, fun j _ h => digs_at h, by omega, by rw [val16 hx]; simp [Nat.mod_one]⟩
theorem NegL.next {x k b n : Nat} {L : List Nat} (h : NegL x k b L) (hk : k < 16) (hn : n + L.getD k 0 + b = P / B ^ k % B + 65536) : NegL x (k + 1) (1 - n / 65536) (L.set k (n % 65536)) := by
 obtain ⟨h1, h2, h3, h5, h4⟩ := h
 have ha := h3 k (Nat.le_refl _) hk
 have hxl := lim_lt x k
 have hpl := lim_lt P k
 have hr : n % 65536 < B := Nat.mod_lt _ (by decide)
 refine ⟨by simpa using h1, h2.set hr, fun j hj hj2 => by rw [getD_set_ne _ _ (by omega), h3 j (by omega) hj2], by omega, ?_⟩
 have hs := val_set B L k (n % 65536) (by omega)
 have he : n % 65536 + x / B ^ k % B + b = P / B ^ k % B + 65536 * (1 - n / 65536) := by
  rw [← ha]
  unfold B at *; omega
 rw [mod_next x, mod_next P, Nat.pow_succ, Nat.mul_assoc]
 rw [ha] at hs
 have e := congrArg (B ^ k * ·) he
 simp only [Nat.mul_add] at e
 have e2 : B * (1 - n / 65536) = 65536 * (1 - n / 65536) := rfl
 rw [e2]
 omega
theorem NegL.done {x b : Nat} {L : List Nat} (h : NegL x 16 b L) (hx : x < P) : L.length = 16 ∧ Small L ∧ val B L = P - x := by
 obtain ⟨h1, h2, _, h5, h4⟩ := h
 have hxx : x < 2 ^ 256 := Nat.lt_trans hx (by decide)
 rw [mod_full hxx, mod_full (show P < 2 ^ 256 by decide)] at h4
 have hl := val_lt L h2
 rw [h1] at hl
 refine ⟨h1, fun j => Nat.le_trans (Nat.le_of_lt (h2.getD (by decide) j)) (by decide), ?_⟩
 have hb : b = 0 := by unfold B at *; omega
 subst hb
 omega
/-- The product: the first i limbs of x are done, and of the next one the first k of y. -/
def MulL (x y i k : Nat) (L : List Nat) : Prop :=
 L.length = 32 ∧ (∀ j, L.getD j 0 ≤ (16 * i + k) * 4294836225) ∧ val B L = x % B ^ i * y + B ^ i * ((x / B ^ i % B) * (y % B ^ k))
theorem val_zeros (b n : Nat) : val b (List.replicate n 0) = 0 := by
 induction n with
 | zero => rfl
 | succ n ih => rw [List.replicate_succ, val, ih]; simp
theorem MulL.zero {x y : Nat} : MulL x y 0 0 (List.replicate 32 0) := by
 refine ⟨List.length_replicate, fun j => ?_, ?_⟩
 ·rw [List.getD_eq_getElem?_getD, List.getElem?_replicate]; split <;> exact Nat.zero_le _
 ·have e : x % B ^ 0 = 0 := by rw [Nat.pow_zero, Nat.mod_one]
  have e2 : y % B ^ 0 = 0 := by rw [Nat.pow_zero, Nat.mod_one]
  rw [val_zeros, e, e2, Nat.mul_zero, Nat.mul_zero, Nat.zero_mul]
theorem MulL.next {x y i k : Nat} {L : List Nat} (h : MulL x y i k L) (hi : i < 16) (hk : k < 16) : MulL x y i (k + 1) (L.set (i + k) (L.getD (i + k) 0 + (x / B ^ i % B) * (y / B ^ k % B))) := by
 obtain ⟨h1, h2, h4⟩ := h
 have hxl := lim_lt x i
 have hyl := lim_lt y k
 have hp : (x / B ^ i % B) * (y / B ^ k % B) ≤ 65535 * 65535 := Nat.mul_le_mul (by unfold B at *; omega) (by unfold B at *; omega)
 refine ⟨by simpa using h1, fun j => ?_, ?_⟩
 ·have h2j := h2 j
  by_cases e : i + k = j
  ·subst e
   rw [getD_set_eq _ _ (by omega)]
   omega
  ·rw [getD_set_ne _ _ e]; exact Nat.le_trans h2j (Nat.mul_le_mul_right _ (Nat.le_succ _))
 ·have hs := val_set B L (i + k) (L.getD (i + k) 0 + (x / B ^ i % B) * (y / B ^ k % B)) (by omega)
  rw [mod_next y, Nat.mul_add, Nat.mul_add]
  rw [Nat.mul_add] at hs
  have e : B ^ i * (x / B ^ i % B * (B ^ k * (y / B ^ k % B))) = B ^ (i + k) * (x / B ^ i % B * (y / B ^ k % B)) := by
   rw [Nat.pow_add]; simp only [Nat.mul_assoc, Nat.mul_left_comm]
  rw [e]
  omega
theorem MulL.row {x y i : Nat} {L : List Nat} (h : MulL x y i 16 L) (hy : y < 2 ^ 256) : MulL x y (i + 1) 0 L := by
 obtain ⟨h1, h2, h4⟩ := h
 refine ⟨h1, fun j => by have := h2 j; omega, ?_⟩
 rw [h4, mod_full hy, mod_next x, Nat.add_mul, Nat.pow_zero, Nat.mod_one, Nat.mul_zero, Nat.mul_zero, Nat.add_zero, Nat.mul_assoc]
theorem val_add_list (L1 L2 : List Nat) (c : Nat) (h : L1.length = L2.length) : val B (List.zipWith (fun a b => a + c * b) L1 L2) = val B L1 + c * val B L2 := by
 induction L1 generalizing L2 with
 | nil => cases L2 with
  | nil => simp [val]
  | cons a t => simp at h
 | cons a t ih =>
  cases L2 with
  | nil => simp at h
  | cons b t2 =>
   have := ih t2 (by simpa using h)
   show (a + c * b) + B * val B (List.zipWith _ t t2) = a + B * val B t + c * (b + B * val B t2)
   rw [this, Nat.mul_add, Nat.mul_add, Nat.mul_left_comm B c]
   omega
/-- what stands from 2^256 on counts 38 times. -/
def foldL (L : List Nat) : List Nat := List.zipWith (fun a b => a + 38 * b) (L.take 16) (L.drop 16)
theorem foldL_length {L : List Nat} (h : L.length = 32) : (foldL L).length = 16 := by simp [foldL, h]
theorem foldL_at {L : List Nat} (h : L.length = 32) {i : Nat} (hi : i < 16) : (foldL L).getD i 0 = L.getD i 0 + 38 * L.getD (i + 16) 0 := by
 unfold foldL
 rw [List.getD_eq_getElem?_getD, List.getElem?_zipWith, List.getElem?_take_of_lt hi, List.getElem?_drop, Nat.add_comm 16 i]
 rw [List.getD_eq_getElem?_getD, List.getD_eq_getElem?_getD, List.getElem?_eq_getElem (by omega), List.getElem?_eq_getElem (by omega)]
 rfl
theorem MulL.done {x y : Nat} {L : List Nat} (h : MulL x y 16 0 L) (hx : x < 2 ^ 256) : L.length = 32 ∧ Small (foldL L) ∧ val B (foldL L) % P = x * y % P := by
 obtain ⟨h1, h2, h4⟩ := h
 refine ⟨h1, fun j => ?_, ?_⟩
 ·by_cases hj : j < 16
  ·rw [foldL_at h1 hj]
   have a := h2 j
   have b := h2 (j + 16)
   omega
  ·rw [List.getD_eq_getElem?_getD, List.getElem?_eq_none (by rw [foldL_length h1]; omega)]
   simp
 ·rw [mod_full hx, Nat.pow_zero, Nat.mod_one, Nat.mul_zero, Nat.mul_zero, Nat.add_zero] at h4
  have e : val B L = val B (L.take 16) + B ^ 16 * val B (L.drop 16) := by
   conv => lhs; rw [← List.take_append_drop 16 L, val_append, List.length_take, h1]
   rfl
  rw [foldL, val_add_list _ _ _ (by simp [h1]), ← h4, e]
  have hB : B ^ 16 = 38 + P * 2 := by decide
  rw [hB, Nat.add_mul, Nat.mul_assoc, ← Nat.add_assoc, Nat.add_mul_mod_self_left]
end F5
end

section
namespace F5
/-- the order. -/
def LL : Nat := 7237005577332262213973186563042994240857116359379907606001950938285454250989
theorem LL_pos : 0 < LL := by decide
theorem LL_lt : LL < 2 ^ 253 := by decide
theorem LL_digs : digs B LL 16 = [54253, 23797, 25370, 22546, 40150, 41719, 63966, 5342, 0, 0, 0, 0, 0, 0, 0, 4096] := by decide +kernel
theorem LL_digs17 : digs B LL 17 = [54253, 23797, 25370, 22546, 40150, 41719, 63966, 5342, 0, 0, 0, 0, 0, 0, 0, 4096, 0] := by decide +kernel
theorem val_split (b : Nat) (l : List Nat) (i : Nat) (hi : i < l.length) : val b l = val b (l.take i) + b ^ i * l.getD i 0 + b ^ (i + 1) * val b (l.drop (i + 1)) := by
 have h : val b l = val b (l.take (i + 1)) + b ^ (i + 1) * val b (l.drop (i + 1)) := by
  conv => lhs; rw [← List.take_append_drop (i + 1) l, val_append, List.length_take, Nat.min_eq_left (by omega)]
 rw [h, val_take_succ b l i hi]
theorem All.take {b : Nat} {l : List Nat} (h : All b l) (i : Nat) : All b (l.take i) := fun x hx => h x (List.mem_of_mem_take hx)
theorem drop_eq {a b : List Nat} {n i : Nat} (la : a.length = n) (lb : b.length = n) (h : ∀ j, i ≤ j → j < n → a.getD j 0 = b.getD j 0) : a.drop i = b.drop i := by
 apply List.ext_getElem?
 intro k
 rw [List.getElem?_drop, List.getElem?_drop]
 by_cases hk : i + k < n
 ·have := h (i + k) (by omega) hk
  rw [List.getD_eq_getElem?_getD, List.getD_eq_getElem?_getD, List.getElem?_eq_getElem (by omega), List.getElem?_eq_getElem (by omega)] at this
  rw [List.getElem?_eq_getElem (by omega), List.getElem?_eq_getElem (by omega)]
  simpa using this
 ·rw [List.getElem?_eq_none (by omega), List.getElem?_eq_none (by omega)]
/-- the first digit from above that differs tells which number is the smaller one. -/
theorem below_step {a b : List Nat} {n i : Nat} (ha : All B a) (hb : All B b) (la : a.length = n) (lb : b.length = n) (hi : i < n) (heq : ∀ j, i < j → j < n → a.getD j 0 = b.getD j 0)
  (hne : a.getD i 0 ≠ b.getD i 0) : (val B a < val B b) = (a.getD i 0 < b.getD i 0) := by
 have hd := drop_eq (i := i + 1) la lb fun j h1 h2 => heq j (by omega) h2
 have e1 := val_split B a i (by omega)
 have e2 := val_split B b i (by omega)
 rw [hd] at e1
 have l1 := val_lt _ (ha.take i)
 have l2 := val_lt _ (hb.take i)
 rw [List.length_take, Nat.min_eq_left (by omega)] at l1 l2
 generalize val B (a.take i) = ta at *
 generalize val B (b.take i) = tb at *
 generalize B ^ (i + 1) * val B (b.drop (i + 1)) = R at *
 generalize a.getD i 0 = x at *
 generalize b.getD i 0 = y at *
 generalize B ^ i = m at *
 rw [e1, e2]
 rcases Nat.lt_or_gt_of_ne hne with h | h
 ·have := Nat.mul_le_mul_left m h
  rw [Nat.mul_succ] at this
  exact propext ⟨fun _ => h, fun _ => by omega⟩
 ·have := Nat.mul_le_mul_left m h
  rw [Nat.mul_succ] at this
  exact propext ⟨fun h2 => by omega, fun h2 => by omega⟩
theorem below_same {a b : List Nat} {n : Nat} (la : a.length = n) (lb : b.length = n) (heq : ∀ j, j < n → a.getD j 0 = b.getD j 0) : ¬ val B a < val B b := by
 have := drop_eq (i := 0) la lb fun j _ h => heq j h
 rw [List.drop_zero, List.drop_zero] at this
 rw [this]; omega
/-- of a number less another one the first k digits. -/
structure OffL (a b : List Nat) (k c : Nat) (out : List Nat) : Prop where
 len : out.length = k
 all : All B out
 bw : c ≤ 1
 eq : val B out + val B (b.take k) = val B (a.take k) + B ^ k * c
theorem OffL.zero (a b : List Nat) : OffL a b 0 0 [] := ⟨rfl, fun _ h => by (cases h), by omega, by simp [val]⟩
theorem val_snoc' (b : Nat) (l : List Nat) (x : Nat) : val b (l ++ [x]) = val b l + b ^ l.length * x := by rw [val_append]; simp [val]
theorem OffL.next {a b out : List Nat} {k c n : Nat} (h : OffL a b k c out) (ha : All B a) (hb : All B b) (la : k < a.length) (lb : k < b.length) (hn : n + b.getD k 0 + c = 65536 + a.getD k 0) :
  OffL a b (k + 1) (1 - n / 65536) (out ++ [n % 65536]) := by
 obtain ⟨h1, h2, h3, h4⟩ := h
 have hx := ha.getD (by decide) k
 have hy := hb.getD (by decide) k
 refine ⟨by simp [h1], h2.append fun x hx => by rw [List.mem_singleton.1 hx]; exact Nat.mod_lt _ (by decide), by omega, ?_⟩
 rw [val_snoc', h1, val_take_succ B b k lb, val_take_succ B a k la, Nat.pow_succ]
 generalize a.getD k 0 = x at *
 generalize b.getD k 0 = y at *
 have e : n % 65536 + y + c = x + 65536 * (1 - n / 65536) := by unfold B at hx hy; omega
 have e2 := congrArg (B ^ k * ·) e
 simp only [Nat.mul_add] at e2
 rw [Nat.mul_assoc, show B * (1 - n / 65536) = 65536 * (1 - n / 65536) from rfl]
 omega
theorem OffL.done {a b out : List Nat} {n c : Nat} (h : OffL a b n c out) (la : a.length = n) (lb : b.length = n) (hle : val B b ≤ val B a) : out = digs B (val B a - val B b) n := by
 obtain ⟨h1, h2, h3, h4⟩ := h
 rw [List.take_of_length_le (by omega), List.take_of_length_le (by omega)] at h4
 have hl := val_lt _ h2
 rw [h1] at hl
 refine digs_of h2 h1 ?_
 rcases (show c = 0 ∨ c = 1 by omega) with rfl | rfl
 ·omega
 ·omega
/-- twice a number, and a bit: the first k digits. -/
structure DblL (r : List Nat) (c0 k c : Nat) (out : List Nat) : Prop where
 len : out.length = k
 all : All B out
 cw : c ≤ 1
 eq : val B out + B ^ k * c = 2 * val B (r.take k) + c0
theorem DblL.zero (r : List Nat) {c0 : Nat} (h : c0 ≤ 1) : DblL r c0 0 c0 [] := ⟨rfl, fun _ h => by (cases h), h, by simp [val]⟩
theorem DblL.next {r out : List Nat} {c0 k c x : Nat} (h : DblL r c0 k c out) (hr : All B r) (hk : k < r.length) (hx : x = 2 * r.getD k 0 + c) : DblL r c0 (k + 1) (x / 65536) (out ++ [x % 65536]) := by
 obtain ⟨h1, h2, h3, h4⟩ := h
 have hy := hr.getD (by decide) k
 refine ⟨by simp [h1], h2.append fun x hx => by rw [List.mem_singleton.1 hx]; exact Nat.mod_lt _ (by decide), by unfold B at hy; omega, ?_⟩
 rw [val_snoc', h1, val_take_succ B r k hk, Nat.pow_succ]
 generalize r.getD k 0 = y at *
 have e : x % 65536 + 65536 * (x / 65536) = 2 * y + c := by rw [← hx]; exact Nat.mod_add_div _ _
 have e2 := congrArg (B ^ k * ·) e
 simp only [Nat.mul_add] at e2
 rw [Nat.mul_assoc, show B * (x / 65536) = 65536 * (x / 65536) from rfl, Nat.mul_add, Nat.mul_left_comm 2]
 omega
theorem DblL.done {r out : List Nat} {c0 n c : Nat} (h : DblL r c0 n c out) (hr : r.length = n) (hl : 2 * val B r + c0 < B ^ n) : out = digs B (2 * val B r + c0) n := by
 obtain ⟨h1, h2, h3, h4⟩ := h
 rw [List.take_of_length_le (by omega)] at h4
 refine digs_of h2 h1 ?_
 rcases (show c = 0 ∨ c = 1 by omega) with rfl | rfl
 ·omega
 ·omega
/-- the rest, bit by bit from above. -/
theorem rest_step {v c : Nat} (hv : v < LL) (hc : c ≤ 1) : (2 * v + c) % LL = if 2 * v + c < LL then 2 * v + c else 2 * v + c - LL := by
 split
 ·rename_i h; exact Nat.mod_eq_of_lt h
 ·rename_i h
  rw [Nat.mod_eq_sub_mod (by omega), Nat.mod_eq_of_lt (by omega)]
theorem rest_next (D m : Nat) : D / 2 ^ m % LL = (2 * (D / 2 ^ (m + 1) % LL) + D / 2 ^ m % 2) % LL := by
 have h : D / 2 ^ m = 2 * (D / 2 ^ (m + 1)) + D / 2 ^ m % 2 := by
  rw [Nat.pow_succ, ← Nat.div_div_eq_div_mul]; omega
 conv => lhs; rw [h]
 rw [Nat.add_mod, Nat.mul_mod, Nat.add_mod (2 * _), Nat.mul_mod 2 (_ % LL), Nat.mod_mod]
theorem bit_at {d : List Nat} (hd : All B d) {i j : Nat} (hi : i < d.length) (hj : j < 16) : d.getD i 0 / 2 ^ j % 2 = val B d / 2 ^ (16 * i + j) % 2 := by
 have e : d = digs B (val B d) d.length := digs_of hd rfl rfl
 have e2 : d.getD i 0 = val B d / B ^ i % B := by
  conv => lhs; rw [e]
  exact digs_getD _ _ _ _ hi
 have e3 : 2 ^ (16 * i + j) = B ^ i * 2 ^ j := by rw [Nat.pow_add, Nat.pow_mul]
 rw [e2, e3, ← Nat.div_div_eq_div_mul]
 generalize val B d / B ^ i = x
 have e4 : B = 2 ^ j * 2 ^ (16 - j) := by rw [← Nat.pow_add, show j + (16 - j) = 16 by omega]
 rw [e4, Nat.mod_mul, Nat.add_mul_div_left _ _ (Nat.two_pow_pos j), Nat.div_eq_of_lt (Nat.mod_lt _ (Nat.two_pow_pos j)), Nat.zero_add]
 exact Nat.mod_mod_of_dvd _ ⟨2 ^ (15 - j), by rw [← Nat.pow_succ', show (15 - j).succ = 16 - j by omega]⟩
theorem rest_top {d : List Nat} (hd : All B d) : val B d / 2 ^ (16 * d.length) = 0 := by
 have := val_lt _ hd
 exact Nat.div_eq_of_lt (by rw [Nat.pow_mul]; exact this)
/-- bytes' number, the lowest first. -/
def bval (l : List UInt8) : Nat := val 256 (l.map UInt8.toNat)
theorem bytes_all (l : List UInt8) : All 256 (l.map UInt8.toNat) := by
 intro x hx
 obtain ⟨c, _, rfl⟩ := List.mem_map.1 hx
 exact c.toNat_lt
theorem bval_lt (l : List UInt8) : bval l < 256 ^ l.length := by
 have := val_lt _ (bytes_all l)
 rwa [List.length_map] at this
/-- digits of 16 bits, two bytes each. -/
structure DigL (l : List UInt8) (k : Nat) (out : List Nat) : Prop where
 len : out.length = k
 all : All B out
 eq : val B out = bval (l.take (2 * k))
theorem DigL.zero (l : List UInt8) : DigL l 0 [] := ⟨rfl, fun _ h => by (cases h), by simp [val, bval]⟩
theorem pow256 (k : Nat) : (256 : Nat) ^ (2 * k) = B ^ k := by rw [Nat.pow_mul]
theorem bval_take (l : List UInt8) (i : Nat) (hi : i < l.length) : bval (l.take (i + 1)) = bval (l.take i) + 256 ^ i * (l.getD i 0).toNat := by
 have h := val_take_succ 256 (l.map UInt8.toNat) i (by rw [List.length_map]; exact hi)
 rw [← List.map_take, ← List.map_take] at h
 unfold bval
 rw [h]
 congr 2
 simp [List.getD_eq_getElem?_getD, List.getElem?_eq_getElem hi]
theorem DigL.two {l : List UInt8} {k : Nat} {out : List Nat} (h : DigL l k out) (hk : 2 * k + 1 < l.length) : DigL l (k + 1) (out ++ [(l.getD (2 * k) 0).toNat + 256 * (l.getD (2 * k + 1) 0).toNat]) := by
 obtain ⟨h1, h2, h3⟩ := h
 have hx := (l.getD (2 * k) 0).toNat_lt
 have hy := (l.getD (2 * k + 1) 0).toNat_lt
 refine ⟨by simp [h1], h2.append fun x hx => by rw [List.mem_singleton.1 hx]; unfold B; omega, ?_⟩
 rw [val_snoc', h1, h3, show 2 * (k + 1) = 2 * k + 1 + 1 by omega, bval_take l (2 * k + 1) hk, bval_take l (2 * k) (by omega), Nat.pow_succ, pow256, Nat.mul_add, Nat.mul_assoc]
 omega
theorem DigL.one {l : List UInt8} {k : Nat} {out : List Nat} (h : DigL l k out) (hk : 2 * k + 1 = l.length) : DigL l (k + 1) (out ++ [(l.getD (2 * k) 0).toNat]) := by
 obtain ⟨h1, h2, h3⟩ := h
 have hx := (l.getD (2 * k) 0).toNat_lt
 refine ⟨by simp [h1], h2.append fun x hx => by rw [List.mem_singleton.1 hx]; unfold B; omega, ?_⟩
 have e : bval (l.take (2 * (k + 1))) = bval (l.take (2 * k + 1)) := by rw [List.take_of_length_le (by omega), List.take_of_length_le (by omega)]
 rw [val_snoc', h1, h3, e, bval_take l (2 * k) (by omega), pow256]
theorem DigL.done {l : List UInt8} {k : Nat} {out : List Nat} (h : DigL l k out) (hk : l.length ≤ 2 * k) : val B out = bval l := by rw [h.eq, List.take_of_length_le hk]
/-- the product and a third number: the first i digits of x and z are done, and of the next one the first k of y. -/
def MulZ (x y z i k e : Nat) (L : List Nat) : Prop :=
 L.length = 34 ∧ (∀ j, L.getD j 0 ≤ (16 * i + k) * 4294836225 + (i + e) * 65535) ∧ val B L = z % B ^ (i + e) + x % B ^ i * y + B ^ i * ((x / B ^ i % B) * (y % B ^ k))
theorem MulZ.zero {x y z : Nat} : MulZ x y z 0 0 0 (List.replicate 34 0) := by
 refine ⟨List.length_replicate, fun j => ?_, ?_⟩
 ·rw [List.getD_eq_getElem?_getD, List.getElem?_replicate]; split <;> exact Nat.zero_le _
 ·rw [val_zeros]; simp [Nat.mod_one]
theorem MulZ.add {x y z i : Nat} {L : List Nat} (h : MulZ x y z i 0 0 L) (hi : i < 16) : MulZ x y z i 0 1 (L.set i (L.getD i 0 + z / B ^ i % B)) := by
 obtain ⟨h1, h2, h4⟩ := h
 have hzl : z / B ^ i % B ≤ 65535 := Nat.le_of_lt_succ (lim_lt z i)
 refine ⟨by simpa using h1, fun j => ?_, ?_⟩
 ·have h2j := h2 j
  clear h4
  generalize z / B ^ i % B = q at *
  by_cases e : i = j
  ·subst e
   rw [getD_set_eq _ _ (by omega)]
   omega
  ·rw [getD_set_ne _ _ e]; clear e h2; exact Nat.le_trans h2j (by omega)
 ·have hs := val_set B L i (L.getD i 0 + z / B ^ i % B) (by omega)
  rw [Nat.mul_add] at hs
  rw [Nat.add_zero] at h4
  rw [mod_next z]
  omega
theorem MulZ.next {x y z i k : Nat} {L : List Nat} (h : MulZ x y z i k 1 L) (hi : i < 16) (hk : k < 16) : MulZ x y z i (k + 1) 1 (L.set (i + k) (L.getD (i + k) 0 + (x / B ^ i % B) * (y / B ^ k % B))) := by
 obtain ⟨h1, h2, h4⟩ := h
 have hxl := lim_lt x i
 have hyl := lim_lt y k
 have hp : (x / B ^ i % B) * (y / B ^ k % B) ≤ 65535 * 65535 := Nat.mul_le_mul (by unfold B at *; omega) (by unfold B at *; omega)
 refine ⟨by simpa using h1, fun j => ?_, ?_⟩
 ·have h2j := h2 j
  clear h4
  generalize (x / B ^ i % B) * (y / B ^ k % B) = q at *
  clear hxl hyl
  by_cases e : i + k = j
  ·subst e
   rw [getD_set_eq _ _ (by omega)]
   omega
  ·rw [getD_set_ne _ _ e]; clear e hp h2; exact Nat.le_trans h2j (by omega)
 ·have hs := val_set B L (i + k) (L.getD (i + k) 0 + (x / B ^ i % B) * (y / B ^ k % B)) (by omega)
  rw [mod_next y, Nat.mul_add, Nat.mul_add]
  rw [Nat.mul_add] at hs
  have e : B ^ i * (x / B ^ i % B * (B ^ k * (y / B ^ k % B))) = B ^ (i + k) * (x / B ^ i % B * (y / B ^ k % B)) := by
   rw [Nat.pow_add]; simp only [Nat.mul_assoc, Nat.mul_left_comm]
  rw [e]
  omega
theorem MulZ.row {x y z i : Nat} {L : List Nat} (h : MulZ x y z i 16 1 L) (hy : y < 2 ^ 256) : MulZ x y z (i + 1) 0 0 L := by
 obtain ⟨h1, h2, h4⟩ := h
 refine ⟨h1, fun j => by have := h2 j; omega, ?_⟩
 rw [h4, mod_full hy, mod_next x, Nat.add_mul, Nat.pow_zero, Nat.mod_one, Nat.mul_zero, Nat.mul_zero, Nat.add_zero, Nat.add_zero, Nat.mul_assoc]
 omega
theorem MulZ.done {x y z : Nat} {L : List Nat} (h : MulZ x y z 16 0 0 L) (hx : x < 2 ^ 256) (hz : z < 2 ^ 256) : L.length = 34 ∧ (∀ j, L.getD j 0 ≤ 1099511627776) ∧ val B L = x * y + z := by
 obtain ⟨h1, h2, h4⟩ := h
 refine ⟨h1, fun j => by have := h2 j; omega, ?_⟩
 rw [h4, Nat.add_zero, mod_full hx, mod_full hz, Nat.pow_zero, Nat.mod_one, Nat.mul_zero, Nat.mul_zero]
 omega
theorem Pass.full {A L : List Nat} {c n : Nat} (h : Pass A n L c) (hA : A.length = n) (hv : val B A < B ^ n) : All B L ∧ val B L = val B A := by
 have ha : All B L := by
  intro x hx
  obtain ⟨j, hj, rfl⟩ := List.getElem_of_mem hx
  have := h.2.1 j (by have := h.1; omega)
  rw [List.getD_eq_getElem?_getD, List.getElem?_eq_getElem hj] at this
  exact this
 refine ⟨ha, ?_⟩
 have h4 := h.2.2.2
 have hc : c = 0 := by
  rcases Nat.eq_zero_or_pos c with h0 | h0
  ·exact h0
  ·have := Nat.mul_le_mul_left (B ^ n) h0
   omega
 subst hc
 omega
end F5
end

section
namespace Go.Proofs.YtcfogpeinjehbaaGreatDoor
open Go Go.Proofs Go.RowKit F5
/-- Numbers of 64 bits, as cells. -/
def U (l : List Nat) : List Value := l.map u64v
theorem U_length (l : List Nat) : (U l).length = l.length := by simp [U]
theorem U_append (a b : List Nat) : U (a ++ b) = U a ++ U b := by simp [U]
theorem U_one (l : List Nat) : ∀ u ∈ U l, u.oneCell' = true := by
 intro u hu
 obtain ⟨x, _, rfl⟩ := List.mem_map.1 hu
 rfl
theorem reads_u {w : World} {Bd n k : Nat} {A : Option Addr} {l : List Nat} (h : Reads w Bd 1 A n (U l)) (hk : k < n) : ∃ ad, A = some ad ∧ ad.block < Bd ∧ w.cell? (ad.add k) = some (.int .u64 ((l.getD k 0 : Nat) : Int)) := by
 obtain ⟨ad, u, rfl, hb, hu, hc⟩ := h.at_ hk
 have hl : k < l.length := by have := h.1; rw [U_length] at this; omega
 refine ⟨ad, rfl, hb, ?_⟩
 rw [hc, ← hu]
 simp [U, u64v, List.getElem?_map, List.getD_eq_getElem?_getD, List.getElem?_eq_getElem hl]
theorem reads_u1 (w : World) (x : Nat) : Reads (w.alloc (.cells #[.int .u64 (x : Int)] 40)) (w.heap.size + 1) 1 (some ⟨w.heap.size, 0, none⟩) 1 (U [x]) := by
 refine ⟨rfl, fun _ => ⟨_, rfl, by simp, fun j u hj => ?_⟩⟩
 match j, hj with
 | 0, hj =>
  simp [U, u64v] at hj
  subst hj
  show World.cell? _ ⟨w.heap.size, 0, none⟩ = _
  rw [Lib.cell_of_heap (heap_alloc_new w _)]; rfl
theorem own_lit (w : World) (l : List Nat) (h : l.length ≤ 1000) : (w.alloc (.cells (u64s l) 40)).ownsRow w.heap.size 40 1 (.slice (some ⟨w.heap.size, 0, none⟩) l.length l.length) l.length (U l) :=
 ⟨by rw [U_length, Nat.mul_one], .inr ⟨w.heap.size, l.length, u64s l, rfl, Nat.le_refl _, heap_alloc_new w _, Nat.le_refl _, by unfold maxLen; omega, by rw [u64s_size, Nat.mul_one], by
  rw [Nat.mul_one, List.take_of_length_le (by simp [u64s])]; simp [u64s, U]⟩⟩
theorem infoU64 : (Tryz.prog.info? 40).map (fun i => (i.zero, i.size, i.bytes)) = some (some (.int .u64 0), 1, 8) := by kernel_rfl
theorem own_old64 {w w' : World} {Bd : Nat} {v : Value} {n : Nat} {xs : List Value} {e : TypeId} (h : w.ownsRow Bd e 1 v n xs) (hb : Below w.heap.size w w') : w'.ownsRow Bd e 1 v n xs := by
 refine ⟨h.1, ?_⟩
 rcases h.2 with h2 | ⟨g, cap, cur, hv, hg, hh, r⟩
 ·exact Or.inl h2
 ·have hlt : g < w.heap.size := by
   rcases Nat.lt_or_ge g w.heap.size with h | h
   ·exact h
   ·rw [Array.getElem?_eq_none h] at hh; cases hh
  exact Or.inr ⟨g, cap, cur, hv, hg, (hb.block g hlt).trans hh, r⟩
theorem own_more64 {w : World} {B B' : Nat} {v : Value} {n : Nat} {xs : List Value} {e : TypeId} (h : w.ownsRow B e 1 v n xs) (hB : B' ≤ B) : w.ownsRow B' e 1 v n xs :=
 ⟨h.1, h.2.elim Or.inl (fun ⟨g, cap, cur, hv, hg, r⟩ => Or.inr ⟨g, cap, cur, hv, Nat.le_trans hB hg, r⟩)⟩
theorem own_slice {w : World} {base size n : Nat} {e : TypeId} {v : Value} {xs : List Value} (h : w.ownsRow base e size v n xs) : ∃ A c, v = .slice A n c ∧ n ≤ c ∧ c ≤ maxLen := by
 rcases h.2 with ⟨h1, h2⟩ | ⟨g, cap, cur, hv, _, _, hc, hm, _⟩
 ·exact ⟨none, 0, by rw [h1, h2], by omega, by unfold maxLen; omega⟩
 ·exact ⟨_, _, hv, hc, hm⟩
theorem own_emptyU (w : World) : (w.alloc (.cells #[] 40)).ownsRow w.heap.size 40 1 (.slice (some ⟨w.heap.size, 0, none⟩) 0 0) 0 (U []) :=
 own_lit w [] (by simp)
theorem order_lit : (#[.int .u64 54253, .int .u64 23797, .int .u64 25370, .int .u64 22546, .int .u64 40150, .int .u64 41719, .int .u64 63966, .int .u64 5342, .int .u64 0, .int .u64 0, .int .u64 0, .int .u64 0, .int .u64 0, .int .u64 0, .int .u64 0, .int .u64 4096] : Array Value) = u64s (digs B LL 16) := by
 rw [LL_digs]; rfl
theorem order_any (w : World) : Calls Tryz.prog 90 #[] w fun e w' => e = .returned (.slice (some ⟨w.heap.size, 0, none⟩) 16 16) ∧ w' = w.alloc (.cells (u64s (digs B LL 16)) 40) := by
 go_enter Tryz.func90, Tryz.ntmps90
 go_wp2
 go_ret
 exact ⟨rfl, by rw [← order_lit]⟩
theorem below_new1 (w : World) (o : Obj) : Below w.heap.size w (w.alloc o) := (Below.refl _ _).alloc (Nat.le_refl _) o
theorem below_drewNs (w : World) (k : Nat) : Below w.heap.size w (w.drewN k) := ⟨rfl, rfl, rfl, Nat.le_refl _, fun _ _ => rfl⟩
set_option maxHeartbeats 4000000 in
theorem below_any (A A' : Option Addr) (n c c' : Nat) (a b : List Nat) (w : World) (hn : n ≤ 1000) (ha : Reads w w.heap.size 1 A n (U a)) (hb : Reads w w.heap.size 1 A' n (U b)) (haa : All B a) (hba : All B b) :
  Calls Tryz.prog 91 #[.slice A n c, .slice A' n c'] w fun e w' => e = .returned (.bool (decide (val B a < val B b))) ∧ Below w.heap.size w w' := by
 have hla : a.length = n := by have := ha.1; rw [U_length] at this; omega
 have hlb : b.length = n := by have := hb.1; rw [U_length] at this; omega
 have HA := hid ha
 have HB := hid hb
 have HLA := hid hla
 have HLB := hid hlb
 have HAA := hid haa
 have HBA := hid hba
 have w1 : IntKind.i64.wrap ((n : Int) - 1) = (n : Int) - 1 := IntWalk.i64_in _ (by omega)
 clear ha hb hla hlb haa hba
 go_enter Tryz.func91, Tryz.ntmps91
 go_wp2
 go_loopg [5] n (fun gg iv wr => ∃ j : Nat, iv = .int .i64 ((j : Int) - 1) ∧ gg = j ∧ j ≤ n ∧ (∀ k, j ≤ k → k < n → a.getD k 0 = b.getD k 0) ∧ Below w.heap.size w wr)
 case atStart => exact ⟨n, rfl, rfl, Nat.le_refl _, fun k h1 h2 => by omega, Below.refl _ _⟩
 case round =>
  obtain ⟨j, hiv, hg, hj, heq, hbel⟩ := hrel
  by_cases hlt : 0 < j
  ·obtain ⟨i, rfl⟩ : ∃ i, j = i + 1 := ⟨j - 1, by omega⟩
   rw [show ((i + 1 : Nat) : Int) - 1 = (i : Int) by omega] at hiv
   subst hiv
   have hge : (0 : Int) ≤ (i : Int) := by omega
   have hin : (i : Int) < n := by omega
   have hwi : IntKind.i64.wrap ((i : Int) - 1) = (i : Int) - 1 := IntWalk.i64_in _ (by omega)
   obtain ⟨ad, rfl, hadB, hx⟩ := reads_u (HA.out.below hbel) (k := i) (by omega)
   obtain ⟨ad', rfl, hadB', hy⟩ := reads_u (HB.out.below hbel) (k := i) (by omega)
   have hst : Hid (a.getD i 0 ≠ b.getD i 0 → (val B a < val B b) = (a.getD i 0 < b.getD i 0)) := hid fun hne => below_step HAA.out HBA.out HLA.out HLB.out (by omega) (fun k h1 h2 => heq k (by omega) h2) hne
   have hnx : Hid (a.getD i 0 = b.getD i 0 → ∀ k, i ≤ k → k < n → a.getD k 0 = b.getD k 0) := hid fun h k h1 h2 => by
    by_cases hk : k = i
    ·subst hk; exact h
    ·exact heq k (by omega) h2
   obtain ⟨x, hX⟩ := named (a.getD i 0)
   obtain ⟨y, hY⟩ := named (b.getD i 0)
   rw [← hX.out, ← hY.out] at hst hnx
   rw [← hX.out] at hx
   rw [← hY.out] at hy
   have HBEL := hid hbel
   have hz := hbel.size
   have ij : i + 1 ≤ n := hj
   have hgk : gk = i + 1 := hg
   clear hbel heq hX hY hj hg hlt
   by_cases hxy : x = y
   ·have NX := hid (hnx.out hxy)
    have hne : ((x : Int) != (y : Int)) = false := by rw [hxy]; simp
    have heq' : (x : Int) = (y : Int) := by rw [hxy]
    clear hst hnx hxy
    go_wp2_with fail
    go_quiet (fail)
    go_wp2_with fail
    go_roundg (gk - 1)
    case measure => omega
    case rel => exact ⟨i, rfl, by omega, by omega, NX.out, HBEL.out.trans ((below_drewNs _ _).mono hz)⟩
   ·have hres := hst.out hxy
    have hne : ((x : Int) != (y : Int)) = true := by rw [bne_iff_ne]; omega
    have hne' : ¬ (x : Int) = (y : Int) := by omega
    clear hst hnx
    obtain ⟨r, hr⟩ : ∃ r, Hid (r = decide (val B a < val B b)) := ⟨_, hid rfl⟩
    rcases Nat.lt_or_gt_of_ne hxy with h | h
    ·have hl : (x : Int) < (y : Int) := by omega
     have HR : Hid (decide (val B a < val B b) = true) := hid (decide_eq_true (Eq.mpr hres h))
     clear hres hxy h
     go_wp2_with fail
     go_quiet (fail)
     go_wp2_with fail
     have hx' : (wr.drewN nq).cell? (ad.add i) = some (.int .u64 (x : Int)) := hx
     have hy' : (wr.drewN nq).cell? (ad'.add i) = some (.int .u64 (y : Int)) := hy
     have hb1 := HBEL.out.trans ((below_drewNs wr nq).mono hz)
     clear hx hy
     generalize wr.drewN nq = w2 at *
     go_quiet (fail)
     go_wp2_with fail
     go_ret
     exact ⟨by rw [HR.out]; rfl, hb1.trans ((below_drewNs _ _).mono hb1.size)⟩
    ·have hl : ¬ (x : Int) < (y : Int) := by omega
     have HN := hid (show ¬ x < y by omega)
     have HR : Hid (decide (val B a < val B b) = false) := hid (decide_eq_false fun hh => by have := Eq.mp hres hh; omega)
     clear hres hxy h
     go_wp2_with fail
     go_quiet (fail)
     go_wp2_with fail
     have hx' : (wr.drewN nq).cell? (ad.add i) = some (.int .u64 (x : Int)) := hx
     have hy' : (wr.drewN nq).cell? (ad'.add i) = some (.int .u64 (y : Int)) := hy
     have hb1 := HBEL.out.trans ((below_drewNs wr nq).mono hz)
     clear hx hy
     generalize wr.drewN nq = w2 at *
     go_quiet (fail)
     go_wp2_with fail
     go_ret
     exact ⟨by rw [HR.out]; show Ending.returned (.bool (decide (x < y))) = _; rw [decide_eq_false HN.out], hb1.trans ((below_drewNs _ _).mono hb1.size)⟩
  ·obtain rfl : j = 0 := by omega
   subst hiv
   have HR : Hid (decide (val B a < val B b) = false) := hid (decide_eq_false (below_same HLA.out HLB.out fun k hk => heq k (by omega) hk))
   have HBEL := hid hbel
   clear hbel heq hlt
   go_wp2_with fail
   go_ret
   exact ⟨by rw [HR.out]; rfl, HBEL.out⟩
theorem own_grow {w wr w1 w5 : World} {Bd : Nat} {v : Value} {n : Nat} {xs : List Value} {e : TypeId} (h : wr.ownsRow Bd e 1 v n xs) (hB : w.heap.size ≤ Bd) (h1 : Below w.heap.size w wr) (h2 : Below wr.heap.size wr w1) (hg : w1.grownBy w5 v.ownBlock) : Below w.heap.size w w5 :=
 (h1.trans (h2.mono h1.size)).grown hg (by have := h1.size; have := h2.size; omega) (fun k hk => by have := (h.lt k hk).1; omega)
set_option maxHeartbeats 4000000 in
theorem off_any (A A' : Option Addr) (n c c' : Nat) (a b : List Nat) (w : World) (hn : n ≤ 1000) (ha : Reads w w.heap.size 1 A n (U a)) (hb : Reads w w.heap.size 1 A' n (U b)) (haa : All B a) (hba : All B b) (hle : val B b ≤ val B a) :
  Calls Tryz.prog 92 #[.slice A n c, .slice A' n c'] w fun e w' => ∃ v, e = .returned v ∧ w'.ownsRow w.heap.size 40 1 v n (U (digs B (val B a - val B b) n)) ∧ Below w.heap.size w w' := by
 have hla : a.length = n := by have := ha.1; rw [U_length] at this; omega
 have hlb : b.length = n := by have := hb.1; rw [U_length] at this; omega
 obtain ⟨i0, hi, hz0, hz1, hz2⟩ := info_parts infoU64
 have HI := hid hi
 have HA := hid ha
 have HB := hid hb
 have HLA := hid hla
 have HLB := hid hlb
 have HAA := hid haa
 have HBA := hid hba
 have HLE := hid hle
 have hoe := own_emptyU w
 have hb0 := below_new1 w (.cells #[] 40)
 clear ha hb hla hlb haa hba hle hi
 go_enter Tryz.func92, Tryz.ntmps92
 go_wp2
 generalize w.alloc (.cells #[] 40) = W at *
 go_loopg [5, 6, 12] n (fun gg ov bv iv wr => ∃ (k cc : Nat) (out : List Nat), bv = .int .u64 (cc : Int) ∧ iv = .int .i64 (k : Int) ∧ gg + k = n ∧ OffL a b k cc out ∧ wr.ownsRow w.heap.size 40 1 ov k (U out) ∧ Below w.heap.size w wr)
 case atStart => exact ⟨0, 0, [], rfl, rfl, rfl, OffL.zero a b, hoe, hb0⟩
 case round =>
  obtain ⟨k, cc, out, rfl, rfl, hg, hO, hown, hbel⟩ := hrel
  clear hoe hb0
  by_cases hlt : k < n
  ·obtain ⟨ad, rfl, hadB, hx⟩ := reads_u (HA.out.below hbel) hlt
   obtain ⟨ad', rfl, hadB', hy⟩ := reads_u (HB.out.below hbel) hlt
   have hki : (k : Int) < n := by omega
   have hx1 := HAA.out.getD (by decide) k
   have hy1 := HBA.out.getD (by decide) k
   have hcw := hO.bw
   have hnx : Hid (∀ q, q + b.getD k 0 + cc = 65536 + a.getD k 0 → OffL a b (k + 1) (1 - q / 65536) (out ++ [q % 65536])) := hid fun q hq => hO.next HAA.out HBA.out (by rw [HLA.out]; exact hlt) (by rw [HLB.out]; exact hlt) hq
   obtain ⟨x, hX⟩ := named (a.getD k 0)
   obtain ⟨y, hY⟩ := named (b.getD k 0)
   rw [← hX.out, ← hY.out] at hnx
   rw [← hX.out] at hx hx1
   rw [← hY.out] at hy hy1
   have hx1 : x ≤ 65535 := Nat.le_of_lt_succ hx1
   have hy1 : y ≤ 65535 := Nat.le_of_lt_succ hy1
   obtain ⟨q1, hq1⟩ := named (65536 + x)
   obtain ⟨q2, hq2⟩ := named (q1 - y)
   obtain ⟨q, hq⟩ := named (q2 - cc)
   obtain ⟨d, hd⟩ := named (q / 65536)
   obtain ⟨r, hr⟩ := named (q % 65536)
   obtain ⟨c2, hc2⟩ := named (1 - d)
   have c1 : IntKind.u64.wrap (65536 + (x : Int)) = (q1 : Int) := by rw [IntKind.wrap_u64, hq1.out]; omega
   have c2' : IntKind.u64.wrap ((q1 : Int) - (y : Int)) = (q2 : Int) := by rw [IntKind.wrap_u64, hq2.out, hq1.out]; omega
   have c3 : IntKind.u64.wrap ((q2 : Int) - (cc : Int)) = (q : Int) := by rw [IntKind.wrap_u64, hq.out, hq2.out, hq1.out]; omega
   have c4 : IntKind.u64.wrap (1 - (d : Int)) = (c2 : Int) := by rw [IntKind.wrap_u64, hc2.out, hd.out, hq.out, hq2.out, hq1.out]; omega
   have c5 : IntKind.u64.wrap (d : Int) = (d : Int) := by rw [IntKind.wrap_u64, hd.out, hq.out, hq2.out, hq1.out]; omega
   have c6 : IntKind.u64.wrap (r : Int) = (r : Int) := by rw [IntKind.wrap_u64, hr.out]; omega
   have d1 : (q : Int) / 65536 = (d : Int) := by rw [hd.out]; omega
   have d2 : (q : Int).tdiv 65536 = (d : Int) := by rw [Int.tdiv_eq_ediv_of_nonneg (by omega)]; omega
   have d3 : (q : Int) % 65536 = (r : Int) := by rw [hr.out]; omega
   have d4 : (q : Int).tmod 65536 = (r : Int) := by rw [Int.tmod_eq_emod_of_nonneg (by omega)]; omega
   have HN : Hid (OffL a b (k + 1) c2 (out ++ [r])) := hid (by
    rw [hc2.out, hd.out, hr.out]
    exact hnx.out q (by rw [hq.out, hq2.out, hq1.out]; omega))
   have HBEL := hid hbel
   have HOWN := hid hown
   have hwk : IntKind.i64.wrap ((k : Int) + 1) = (k : Int) + 1 := IntWalk.i64_in _ (by omega)
   have hz := hbel.size
   clear hbel hown hO hnx hx1 hy1 hcw
   go_wp2_with fail
   go_quiet (fail)
   have hown1 : (wr.drewN nq).ownsRow w.heap.size 40 1 _ k (U out) := HOWN.out
   have hb1 := HBEL.out.trans ((below_drewNs wr nq).mono hz)
   have hz1' := hb1.size
   clear hx hy
   generalize wr.drewN nq = w2 at *
   have hrd := reads_u1 w2 r
   have HB1 := hid hb1
   have HOW1 := hid hown1
   have hown2 := own_old64 hown1 (below_new1 w2 (.cells #[.int .u64 (r : Int)] 40))
   clear hb1 hown1
   go_wp2_with (at_builtin; refine wpList_append_any _ rfl (.tmp 30) (.tmp 33) 96 rfl w.heap.size 40 i0 (.int .u64 0) 1 8 Tryz.underlying96 HI.out hz0 hz1 hz2 rfl (by omega) _ k (U out) rfl hown2 _ _ 1 _ (U [r]) rfl hrd (U_one _) (by unfold maxLen; omega) (by omega) (by simp; omega) ?_; intro v5 w5 hown5 hg5 hv5)
   have hb5 := hid (own_grow HOW1.out (Nat.le_refl _) HB1.out (below_new1 w2 _) hg5)
   rw [← U_append] at hown5
   have HOW5 := hid hown5
   clear hown5 hg5 hv5 hrd hown2
   go_wp2_with fail
   go_roundg (gk - 1)
   case measure => omega
   case rel => exact ⟨k + 1, c2, out ++ [r], rfl, by go_num, by omega, HN.out, HOW5.out, hb5.out⟩
  ·obtain rfl : k = n := by omega
   have hfin := hO.done HLA.out HLB.out HLE.out
   rw [hfin] at hown
   have HF := hid hown
   have HBEL := hid hbel
   clear hbel hown hO hfin
   go_wp2_with fail
   go_ret
   exact ⟨_, rfl, HF.out, HBEL.out⟩
end Go.Proofs.YtcfogpeinjehbaaGreatDoor
end

section
namespace Go.Proofs.YtcfogpeinjehbaaGreatDoor
open Go Go.Proofs Go.RowKit F5
theorem reads_b {w : World} {Bd n k : Nat} {A : Option Addr} {l : List UInt8} (h : Reads w Bd 1 A n (Lib.byteCells l)) (hk : k < n) : ∃ ad, A = some ad ∧ ad.block < Bd ∧ w.cell? (ad.add k) = some (.int .u8 ((l.getD k 0).toNat : Int)) := by
 obtain ⟨ad, u, rfl, hb, hu, hc⟩ := h.at_ hk
 have hl : k < l.length := by have := h.1; rw [Lib.byteCells_length] at this; omega
 refine ⟨ad, rfl, hb, ?_⟩
 rw [hc, ← hu]
 simp [Lib.byteCells, List.getElem?_map, List.getD_eq_getElem?_getD, List.getElem?_eq_getElem hl]
/-- The bytes' digits: half as many. -/
def DigEnd (l : List UInt8) (w : World) (e : Ending) (w' : World) : Prop :=
 ∃ v d, e = .returned v ∧ d.length = (l.length + 1) / 2 ∧ All B d ∧ val B d = bval l ∧ w'.ownsRow w.heap.size 40 1 v d.length (U d) ∧ Below w.heap.size w w'
set_option maxHeartbeats 4000000 in
theorem digits_any (A : Option Addr) (n c : Nat) (l : List UInt8) (w : World) (hn : n ≤ 1000) (hr : Reads w w.heap.size 1 A n (Lib.byteCells l)) :
  Calls Tryz.prog 62 #[.slice A n c] w (DigEnd l w) := by
 have hl : l.length = n := by have := hr.1; rw [Lib.byteCells_length] at this; omega
 obtain ⟨i0, hi, hz0, hz1, hz2⟩ := info_parts infoU64
 have HI := hid hi
 have HR := hid hr
 have HL := hid hl
 have hoe := own_emptyU w
 have hb0 := below_new1 w (.cells #[] 40)
 clear hr hl hi
 go_enter Tryz.func62, Tryz.ntmps62
 go_wp2
 generalize w.alloc (.cells #[] 40) = W at *
 go_loopg [3, 4] ((n + 1) / 2) (fun gg ov iv wr => ∃ (k : Nat) (out : List Nat), iv = .int .i64 ((2 * k : Nat) : Int) ∧ gg + k = (n + 1) / 2 ∧ DigL l k out ∧ wr.ownsRow w.heap.size 40 1 ov k (U out) ∧ Below w.heap.size w wr)
 case atStart => exact ⟨0, [], rfl, rfl, DigL.zero l, hoe, hb0⟩
 case round =>
  obtain ⟨k, out, hiv, hg, hO, hown, hbel⟩ := hrel
  obtain ⟨p, hp⟩ := named (2 * k)
  rw [← hp.out] at hiv
  subst hiv
  clear hoe hb0
  by_cases hlt : p < n
  ·obtain ⟨ad, rfl, hadB, hx⟩ := reads_b (HR.out.below hbel) hlt
   have hpi : (p : Int) < n := by omega
   obtain ⟨p1, hp1⟩ := named (p + 1)
   have hwp : IntKind.i64.wrap ((p : Int) + 1) = (p1 : Int) := by rw [IntWalk.i64_in _ (by omega), hp1.out]; rfl
   have hwp2 : IntKind.i64.wrap ((p : Int) + 2) = (p : Int) + 2 := IntWalk.i64_in _ (by omega)
   have HBEL := hid hbel
   have HOWN := hid hown
   have hz := hbel.size
   have hkk : k + 1 ≤ (n + 1) / 2 := by have := hp.out; omega
   have H2 : Hid (∀ q, q = p → 2 * (k + 1) = q + 2) := hid fun q hq => by rw [hq, hp.out]; omega
   obtain ⟨x, hX⟩ := named (l.getD p 0).toNat
   have hxl : x < 256 := by rw [hX.out]; exact (l.getD p 0).toNat_lt
   rw [← hX.out] at hx
   have cx : IntKind.u64.wrap (x : Int) = (x : Int) := by rw [IntKind.wrap_u64]; omega
   by_cases hl2 : p1 < n
   ·obtain ⟨ad2, had2, _, hy⟩ := reads_b (HR.out.below hbel) hl2
    injection had2 with had2
    subst had2
    have hp1i : (p1 : Int) < n := by omega
    obtain ⟨y, hY⟩ := named (l.getD p1 0).toNat
    have hyl : y < 256 := by rw [hY.out]; exact (l.getD p1 0).toNat_lt
    rw [← hY.out] at hy
    have cy : IntKind.u64.wrap (y : Int) = (y : Int) := by rw [IntKind.wrap_u64]; omega
    obtain ⟨q, hq⟩ := named (256 * y)
    obtain ⟨s, hs⟩ := named (x + q)
    have cq : IntKind.u64.wrap (256 * (y : Int)) = (q : Int) := by rw [IntKind.wrap_u64, hq.out]; omega
    have cs : IntKind.u64.wrap ((x : Int) + (q : Int)) = (s : Int) := by rw [IntKind.wrap_u64, hs.out, hq.out]; omega
    have HN : Hid (DigL l (k + 1) (out ++ [s])) := hid (by
     have := hO.two (by rw [HL.out, ← hp.out, ← hp1.out]; exact hl2)
     rwa [← hp.out, ← hp1.out, ← hX.out, ← hY.out, ← hq.out, ← hs.out] at this)
    have hrd := reads_u1 wr s
    have hown2 := own_old64 hown (below_new1 wr (.cells #[.int .u64 (s : Int)] 40))
    clear hbel hO hown hX hY hlt
    go_wp2_with (at_builtin; refine wpList_append_any _ rfl (.tmp 32) (.tmp 34) 96 rfl w.heap.size 40 i0 (.int .u64 0) 1 8 Tryz.underlying96 HI.out hz0 hz1 hz2 rfl (by omega) _ k (U out) rfl hown2 _ _ 1 _ (U [s]) rfl hrd (U_one _) (by unfold maxLen; omega) (by omega) (by simp; omega) ?_; intro v5 w5 hown5 hg5 hv5)
    have hb5 := hid (own_grow HOWN.out (Nat.le_refl _) HBEL.out (below_new1 wr _) hg5)
    rw [← U_append] at hown5
    have HOW5 := hid hown5
    clear hown5 hg5 hv5 hrd hown2
    go_wp2_with fail
    go_roundg (gk - 1)
    case measure => omega
    case rel => exact ⟨k + 1, out ++ [s], by rw [H2.out p rfl]; go_num, by omega, HN.out, HOW5.out, hb5.out⟩
   ·have hp1i : ¬ (p1 : Int) < n := by omega
    have HN : Hid (DigL l (k + 1) (out ++ [x])) := hid (by
     have := hO.one (by rw [HL.out, ← hp.out]; have := hp1.out; omega)
     rwa [← hp.out, ← hX.out] at this)
    have hrd := reads_u1 wr x
    have hown2 := own_old64 hown (below_new1 wr (.cells #[.int .u64 (x : Int)] 40))
    clear hbel hO hown hX hlt
    go_wp2_with (at_builtin; refine wpList_append_any _ rfl (.tmp 32) (.tmp 34) 96 rfl w.heap.size 40 i0 (.int .u64 0) 1 8 Tryz.underlying96 HI.out hz0 hz1 hz2 rfl (by omega) _ k (U out) rfl hown2 _ _ 1 _ (U [x]) rfl hrd (U_one _) (by unfold maxLen; omega) (by omega) (by simp; omega) ?_; intro v5 w5 hown5 hg5 hv5)
    have hb5 := hid (own_grow HOWN.out (Nat.le_refl _) HBEL.out (below_new1 wr _) hg5)
    rw [← U_append] at hown5
    have HOW5 := hid hown5
    clear hown5 hg5 hv5 hrd hown2
    go_wp2_with fail
    go_roundg (gk - 1)
    case measure => omega
    case rel => exact ⟨k + 1, out ++ [x], by rw [H2.out p rfl]; go_num, by omega, HN.out, HOW5.out, hb5.out⟩
  ·have hk2 : k = (n + 1) / 2 := by have := hp.out; omega
   have hfin := hid (hO.done (by rw [HL.out, ← hp.out]; omega))
   have hln := hO.len
   have hall := hid hO.all
   have hlk : Hid (out.length = (l.length + 1) / 2) := hid (by rw [hln, HL.out, hk2])
   rw [← hln] at hown
   have HO := hid hown
   have HBEL := hid hbel
   have hpi : ¬ (p : Int) < n := by omega
   clear hbel hown hO hln hk2 hg hlt
   go_wp2_with fail
   go_ret
   exact ⟨_, out, rfl, hlk.out, hall.out, hfin.out, HO.out, HBEL.out⟩
end Go.Proofs.YtcfogpeinjehbaaGreatDoor
end

section
namespace F5
end F5
namespace Go.Proofs.YtcfogpeinjehbaaGreatDoor
open Go Go.Proofs Go.RowKit F5
theorem bval_fbytes {v : Nat} (h : v < 2 ^ 256) : bval (fbytes v) = v := by
 unfold bval fbytes
 rw [List.map_map]
 have e : (digs 256 v 32).map (UInt8.toNat ∘ UInt8.ofNat) = digs 256 v 32 := by
  conv => rhs; rw [← List.map_id (digs 256 v 32)]
  apply List.map_congr_left
  intro x hx
  have := digs_all (b := 256) (by decide) v 32 x hx
  show (UInt8.ofNat x).toNat = x
  rw [UInt8.toNat_ofNat']
  omega
 rw [e, val_digs, Nat.mod_eq_of_lt (show v < 256 ^ 32 from h)]
end Go.Proofs.YtcfogpeinjehbaaGreatDoor
end

section
namespace Go.Proofs.YtcfogpeinjehbaaGreatDoor
open Go Go.Proofs Go.RowKit F5
theorem LL_17 : LL < B ^ 17 := by decide
theorem val17 {v : Nat} (h : v < B ^ 17) : val B (digs B v 17) = v := by rw [val_digs, Nat.mod_eq_of_lt h]
theorem lt17 {v : Nat} (h : v < 2 * LL) : v < B ^ 17 := Nat.lt_trans h (by decide)
theorem U_LL17 : U (digs B LL 16 ++ [0]) = U (digs B LL 17) := by rw [LL_digs, LL_digs17]; rfl
theorem made17 : madeCells #[Value.int .u64 0] 17 = u64s (digs B 0 17) := by
 rw [show digs B 0 17 = List.replicate 17 0 by decide +kernel]; kernel_rfl
theorem reads_lit (w : World) (l : List Nat) : Reads (w.alloc (.cells (u64s l) 40)) (w.heap.size + 1) 1 (some ⟨w.heap.size, 0, none⟩) l.length (U l) := by
 refine ⟨by rw [U_length, Nat.mul_one], fun _ => ⟨_, rfl, by simp, fun j u hj => ?_⟩⟩
 rw [show (⟨w.heap.size, 0, none⟩ : Addr).add j = ⟨w.heap.size, j, none⟩ from by unfold Addr.add; split <;> simp_all]
 rw [Lib.cell_of_heap (heap_alloc_new w _)]
 simpa [u64s, U] using hj
/-- A number's 17 digits are read of a slice. -/
def Rd17 (v : Nat) (rv : Value) (wr : World) : Prop := ∃ A c, rv = .slice A 17 c ∧ Reads wr wr.heap.size 1 A 17 (U (digs B v 17))
theorem Rd17.old {v : Nat} {rv : Value} {w w' : World} (h : Rd17 v rv w) (hb : Below w.heap.size w w') : Rd17 v rv w' := by
 obtain ⟨A, c, h1, h2⟩ := h
 exact ⟨A, c, h1, (h2.below hb).more hb.size⟩
theorem Rd17.of_own {v Bd : Nat} {rv : Value} {w : World} (h : w.ownsRow Bd 40 1 rv 17 (U (digs B v 17))) : Rd17 v rv w := by
 obtain ⟨A, c, rfl, _⟩ := own_slice h
 exact ⟨A, c, rfl, Reads.of_own h⟩
set_option maxHeartbeats 16000000 in
set_option maxRecDepth 100000 in
theorem rest_any (A : Option Addr) (n c : Nat) (d : List Nat) (w : World) (hn : n ≤ 1000) (hr : Reads w w.heap.size 1 A n (U d)) (hd : All B d) :
  Calls Tryz.prog 63 #[.slice A n c] w fun e w' => ∃ v, e = .returned v ∧ w'.ownsRow w.heap.size 5 1 v 32 (Lib.byteCells (fbytes (val B d % LL))) ∧ Below w.heap.size w w' := by
 have hld : d.length = n := by have := hr.1; rw [U_length] at this; omega
 obtain ⟨i0, hi, hz0, hz1, hz2⟩ := info_parts infoU64
 have HI := hid hi
 obtain ⟨ib, hib, hzb0, hzb1, hzb2⟩ := info_parts infoByte
 have HIB := hid hib
 have HR := hid hr
 have HD := hid hd
 have HLD := hid hld
 have CO := hid (order_any w)
 have hmk : ∀ W : World, (Instr.makeSlice 96 (.int .i64 17) (.int .i64 17)).run Tryz.prog W = .ok (.slice (some ⟨W.heap.size, 0, none⟩) 17 17) (W.alloc (.cells (u64s (digs B 0 17)) 40)) := fun W => by
  rw [← made17]
  exact run_make_row' (P := Tryz.prog) 96 40 (.int .u64 0) 8 Tryz.underlying96 infoU64 rfl .i64 .i64 17 (by omega) (by omega) W
 have w1 : IntKind.i64.wrap ((n : Int) - 1) = (n : Int) - 1 := IntWalk.i64_in _ (by omega)
 clear hr hd hld hi hib
 go_enter Tryz.func63, Tryz.ntmps63
 go_wp2_with fail
 refine CO.out.mono ?_
 rintro e wo ⟨rfl, rfl⟩
 have hown1 := own_lit w (digs B LL 16) (by rw [digs_length]; omega)
 rw [digs_length] at hown1
 have hb1 := below_new1 w (.cells (u64s (digs B LL 16)) 40)
 generalize w.alloc (.cells (u64s (digs B LL 16)) 40) = W1 at *
 have hz' := hb1.size
 have hrd := reads_u1 W1 0
 have hown2 := own_old64 hown1 (below_new1 W1 (.cells #[.int .u64 ((0 : Nat) : Int)] 40))
 go_wp2_with (at_builtin; refine wpList_append_any _ rfl (.tmp 13) (.tmp 14) 96 rfl w.heap.size 40 i0 (.int .u64 0) 1 8 Tryz.underlying96 HI.out hz0 hz1 hz2 rfl (by omega) _ 16 (U (digs B LL 16)) rfl hown2 _ _ 1 _ (U [0]) rfl hrd (U_one _) (by unfold maxLen; omega) (by omega) (by simp; omega) ?_; intro v5 w5 hown5 hg5 hv5)
 rw [← U_append, U_LL17, show 16 + 1 = 17 from rfl] at hown5
 have hb5 := own_grow hown1 (Nat.le_refl _) hb1 (below_new1 W1 _) hg5
 obtain ⟨AL, cL, rfl, _⟩ := own_slice hown5
 have hL0 := Reads.of_own hown5
 have hL1 := (hL0.below (below_new1 w5 (.cells (u64s (digs B 0 17)) 40))).more (below_new1 w5 (.cells (u64s (digs B 0 17)) 40)).size
 have hr0 := reads_lit w5 (digs B 0 17)
 rw [digs_length, show w5.heap.size + 1 = (w5.alloc (.cells (u64s (digs B 0 17)) 40)).heap.size by simp] at hr0
 have hb6 := hb5.trans ((below_new1 w5 (.cells (u64s (digs B 0 17)) 40)).mono hb5.size)
 clear hown1 hown2 hown5 hg5 hv5 hrd hb1 hb5 hL0
 go_wp2_with fail
 have hrr : Rd17 0 (.slice (some ⟨w5.heap.size, 0, none⟩) 17 17) (w5.alloc (.cells (u64s (digs B 0 17)) 40)) := ⟨_, _, rfl, hr0⟩
 clear hmk hr0
 generalize w5.alloc (.cells (u64s (digs B 0 17)) 40) = W0 at *
 generalize w5.heap.size = g4 at *
 have HL := hid hL1
 have HW0 := hid hb6
 have HZ0 := hid hb6.size
 obtain ⟨D, hDD⟩ := named (val B d)
 have hD0 : Hid (D / 2 ^ (16 * n) % LL = 0) := hid (by rw [hDD.out, ← HLD.out, rest_top HD.out, Nat.zero_mod])
 clear hL1 hb6 hz'
 go_loopg [4, 5] n (fun gg rv iv wr => ∃ j : Nat, iv = .int .i64 ((j : Int) - 1) ∧ gg = j ∧ j ≤ n ∧ Rd17 (D / 2 ^ (16 * j) % LL) rv wr ∧ Below W0.heap.size W0 wr)
 case atStart => exact ⟨n, rfl, rfl, Nat.le_refl _, by rw [hD0.out]; exact hrr, Below.refl _ _⟩
 case round =>
  obtain ⟨j, hiv, hg, hj, hrj, hbel⟩ := hrel
  clear hrr
  by_cases hlt : 0 < j
  ·obtain ⟨i, rfl⟩ : ∃ i, j = i + 1 := ⟨j - 1, by omega⟩
   rw [show ((i + 1 : Nat) : Int) - 1 = (i : Int) by omega] at hiv
   subst hiv
   have hge : (0 : Int) ≤ (i : Int) := by omega
   have hin : (i : Int) < n := by omega
   have hwi : IntKind.i64.wrap ((i : Int) - 1) = (i : Int) - 1 := IntWalk.i64_in _ (by omega)
   obtain ⟨G, hG⟩ : ∃ G, Hid (gk = G + 1 ∧ G = i ∧ i + 1 ≤ n) := ⟨gk - 1, hid ⟨by omega, by omega, by omega⟩⟩
   have hin2 : i < n := by omega
   have HRJ := hid hrj
   have HBEL := hid hbel
   clear hrj hbel hg hj hlt
   go_wp2_with fail
   go_loopg [4, 6] 16 (fun gg rv kv w1 => ∃ (q K : Nat), kv = .int .u64 (K : Int) ∧ gg = q ∧ q ≤ 16 ∧ K = (if q = 0 then 0 else 2 ^ (q - 1)) ∧ Rd17 (D / 2 ^ (16 * i + q) % LL) rv w1 ∧ Below W0.heap.size W0 w1)
   case atStart => exact ⟨16, 32768, rfl, rfl, Nat.le_refl _, rfl, HRJ.out, HBEL.out⟩
   case round =>
    obtain ⟨q, K, rfl, hgq, hq16, hK, ⟨Ar, cr, rfl, hRr⟩, hbel⟩ := hrel
    clear HRJ HBEL
    by_cases hq0 : 0 < q
    ·obtain ⟨j, rfl⟩ : ∃ j, q = j + 1 := ⟨q - 1, by omega⟩
     rw [if_neg (by omega), Nat.add_sub_cancel] at hK
     have hKpos : 0 < K := by rw [hK]; exact Nat.two_pow_pos j
     have hKle : K ≤ 32768 := by rw [hK]; exact Nat.pow_le_pow_right (by omega) (by omega : j ≤ 15)
     have hKi : (0 : Int) < (K : Int) := by omega
     have hKne : ((K : Int) == 0) = false := by rw [beq_eq_false_iff_ne]; omega
     have hKne' : ¬ (K : Int) = 0 := by omega
     obtain ⟨G2, hG2⟩ : ∃ G, Hid (gk = G + 1 ∧ G = j ∧ j ≤ 15) := ⟨gk - 1, hid ⟨by omega, by omega, by omega⟩⟩
     obtain ⟨ad, rfl, hadB, hx⟩ := reads_u (HR.out.below (HW0.out.trans (hbel.mono HZ0.out))) hin2
     have hbit0 := bit_at HD.out (i := i) (j := j) (by rw [HLD.out]; exact hin2) (by omega)
     have hdi : d.getD i 0 ≤ 65535 := Nat.le_of_lt_succ (HD.out.getD (by decide) i)
     rw [← hDD.out, ← hK] at hbit0
     obtain ⟨y, hy⟩ := named (d.getD i 0)
     rw [← hy.out] at hbit0 hx hdi
     obtain ⟨q1, hq1⟩ := named (y / K)
     rw [← hq1.out] at hbit0
     obtain ⟨bt, hbt⟩ := named (q1 % 2)
     rw [← hbt.out] at hbit0
     have hb1 : bt ≤ 1 := by rw [hbt.out]; omega
     have hq1l : q1 ≤ 65535 := by rw [hq1.out]; exact Nat.le_trans (Nat.div_le_self _ _) hdi
     have d1 : (y : Int) / (K : Int) = (q1 : Int) := by rw [hq1.out]; rfl
     have d2 : (y : Int).tdiv (K : Int) = (q1 : Int) := by rw [Int.tdiv_eq_ediv_of_nonneg (by omega)]; exact d1
     have d3 : (q1 : Int) % 2 = (bt : Int) := by rw [hbt.out]; omega
     have d4 : (q1 : Int).tmod 2 = (bt : Int) := by rw [Int.tmod_eq_emod_of_nonneg (by omega)]; omega
     have d5 : IntKind.u64.wrap (q1 : Int) = (q1 : Int) := by rw [IntKind.wrap_u64]; omega
     have d6 : IntKind.u64.wrap (bt : Int) = (bt : Int) := by rw [IntKind.wrap_u64]; omega
     obtain ⟨K2, hK2⟩ := named (K / 2)
     have d7 : (K : Int) / 2 = (K2 : Int) := by rw [hK2.out]; omega
     have d8 : (K : Int).tdiv 2 = (K2 : Int) := by rw [Int.tdiv_eq_ediv_of_nonneg (by omega)]; exact d7
     have d9 : IntKind.u64.wrap (K2 : Int) = (K2 : Int) := by rw [IntKind.wrap_u64, hK2.out]; omega
     have hKK : Hid (K2 = if j = 0 then 0 else 2 ^ (j - 1)) := hid (by
      rw [hK2.out, hK]
      split
      ·rename_i h0; rw [h0]
      ·obtain ⟨m, rfl⟩ : ∃ m, j = m + 1 := ⟨j - 1, by omega⟩
       rw [Nat.add_sub_cancel, Nat.pow_succ]; omega)
     have hstep := rest_next D (16 * i + j)
     rw [← hbit0, Nat.add_assoc] at hstep
     obtain ⟨v, hv⟩ := named (D / 2 ^ (16 * i + (j + 1)) % LL)
     rw [← hv.out] at hstep hRr
     have hvl : v < LL := by rw [hv.out]; exact Nat.mod_lt _ LL_pos
     rw [rest_step hvl hb1] at hstep
     have HST := hid hstep
     have HVL := hid hvl
     have HRr := hid hRr
     have HBEL := hid hbel
     have hbnd : Hid (2 * v + bt < 2 * LL) := hid (by omega)
     have hoe := own_emptyU wr
     have hb0 := below_new1 wr (.cells #[] 40)
     clear hRr hbel hstep hvl hK hbit0 hgq hq16 hq0 hy hv
     go_wp2_with fail
     generalize wr.alloc (.cells #[] 40) = Wn at *
     clear hx
     generalize wr = W2 at *
     go_loopg [7, 8, 38] 17 (fun gg cv nv iv w1 => ∃ (k cc : Nat) (out : List Nat), cv = .int .u64 (cc : Int) ∧ iv = .int .i64 (k : Int) ∧ gg + k = 17 ∧ DblL (digs B v 17) bt k cc out ∧ w1.ownsRow W2.heap.size 40 1 nv k (U out) ∧ Below W2.heap.size W2 w1)
     case atStart => exact ⟨0, bt, [], rfl, rfl, rfl, DblL.zero _ hb1, hoe, hb0⟩
     case round =>
      obtain ⟨k, cc, out, rfl, rfl, hgk, hO, hown, hbel⟩ := hrel
      clear hoe hb0
      by_cases hlt : k < 17
      ·obtain ⟨ad, rfl, hadB, hx⟩ := reads_u (HRr.out.below hbel) hlt
       have hki : (k : Int) < 17 := by omega
       have hx1 : (digs B v 17).getD k 0 ≤ 65535 := Nat.le_of_lt_succ ((digs_all (by decide) v 17 : All B _).getD (by decide) k)
       have hcw := hO.cw
       have hnx : Hid (∀ x, x = 2 * (digs B v 17).getD k 0 + cc → DblL (digs B v 17) bt (k + 1) (x / 65536) (out ++ [x % 65536])) := hid fun x hx => hO.next (digs_all (by decide) v 17) (by rw [digs_length]; exact hlt) hx
       obtain ⟨x, hX⟩ := named ((digs B v 17).getD k 0)
       rw [← hX.out] at hnx hx hx1
       obtain ⟨m, hm⟩ := named (2 * x)
       obtain ⟨s, hs⟩ := named (m + cc)
       obtain ⟨e1, he1⟩ := named (s / 65536)
       obtain ⟨r1, hr1⟩ := named (s % 65536)
       have c1 : IntKind.u64.wrap (2 * (x : Int)) = (m : Int) := by rw [IntKind.wrap_u64, hm.out]; omega
       have c2 : IntKind.u64.wrap ((m : Int) + (cc : Int)) = (s : Int) := by rw [IntKind.wrap_u64, hs.out, hm.out]; omega
       have c3 : IntKind.u64.wrap (e1 : Int) = (e1 : Int) := by rw [IntKind.wrap_u64, he1.out, hs.out, hm.out]; omega
       have c4 : IntKind.u64.wrap (r1 : Int) = (r1 : Int) := by rw [IntKind.wrap_u64, hr1.out]; omega
       have f1 : (s : Int) / 65536 = (e1 : Int) := by rw [he1.out]; omega
       have f2 : (s : Int).tdiv 65536 = (e1 : Int) := by rw [Int.tdiv_eq_ediv_of_nonneg (by omega)]; omega
       have f3 : (s : Int) % 65536 = (r1 : Int) := by rw [hr1.out]; omega
       have f4 : (s : Int).tmod 65536 = (r1 : Int) := by rw [Int.tmod_eq_emod_of_nonneg (by omega)]; omega
       have HN : Hid (DblL (digs B v 17) bt (k + 1) e1 (out ++ [r1])) := hid (by
        rw [he1.out, hr1.out]
        exact hnx.out s (by rw [hs.out, hm.out]))
       have HB2 := hid hbel
       have HO2 := hid hown
       have hz := hbel.size
       have hrd := reads_u1 wr r1
       have hown2 := own_old64 hown (below_new1 wr (.cells #[.int .u64 (r1 : Int)] 40))
       have hwk : IntKind.i64.wrap ((k : Int) + 1) = (k : Int) + 1 := IntWalk.i64_in _ (by omega)
       clear hbel hown hO hnx hX hcw d1 d2 d3 d4 d5 d6 d7 d8 d9
       go_wp2_with (at_builtin; refine wpList_append_any _ rfl (.tmp 48) (.tmp 51) 96 rfl W2.heap.size 40 i0 (.int .u64 0) 1 8 Tryz.underlying96 HI.out hz0 hz1 hz2 rfl (by omega) _ k (U out) rfl hown2 _ _ 1 _ (U [r1]) rfl hrd (U_one _) (by unfold maxLen; omega) (by omega) (by simp; omega) ?_; intro v5 w5 hown5 hg5 hv5)
       have hb5 := hid (own_grow HO2.out (Nat.le_refl _) HB2.out (below_new1 wr _) hg5)
       rw [← U_append] at hown5
       have HOW5 := hid hown5
       clear hown5 hg5 hv5 hrd hown2
       go_wp2_with fail
       go_roundg (gk - 1)
       case measure => omega
       case rel => exact ⟨k + 1, e1, out ++ [r1], rfl, by go_num, by omega, HN.out, HOW5.out, hb5.out⟩
      ·obtain rfl : k = 17 := by omega
       have hfin := hO.done (digs_length _ _ _) (by rw [val17 (lt17 (by have := HVL.out; omega))]; exact lt17 hbnd.out)
       rw [val17 (lt17 (by have := HVL.out; omega))] at hfin
       rw [hfin] at hown
       obtain ⟨u, hu⟩ := named (2 * v + bt)
       rw [← hu.out] at hown HST hbnd
       have hul := lt17 hbnd.out
       obtain ⟨An, cn, rfl, _⟩ := own_slice hown
       have hrn := Reads.of_own hown
       have HB2 := hid hbel
       have HBW := hid (HBEL.out.trans (hbel.mono HBEL.out.size))
       have hln := (HL.out.below HBW.out).more HBW.out.size
       have CB := below_any An AL 17 cn cL (digs B u 17) (digs B LL 17) wr (by omega) hrn hln (digs_all (by decide) _ _) (digs_all (by decide) _ _)
       rw [val17 hul, val17 LL_17] at CB
       have CB := hid CB
       have HRN := hid hrn
       have HLN := hid hln
       clear hbel hO hfin hgk hown hrn hln d1 d2 d3 d4 d5 d6
       by_cases hcmp : u < LL
       ·rw [if_pos hcmp] at HST
        rw [decide_eq_true hcmp] at CB
        go_wp2_with fail
        refine CB.out.mono ?_
        rintro e w3 ⟨rfl, hb3⟩
        have HF := hid ((HRN.out.below hb3).more hb3.size)
        have HBF := hid (HBW.out.trans (hb3.mono HBW.out.size))
        clear hb3
        go_wp2_with fail
        go_roundg G2
        case measure => have := hG2.out; omega
        case rel => exact ⟨j, K2, rfl, hG2.out.2.1, by have := hG2.out; omega, hKK.out, ⟨_, _, rfl, by rw [HST.out]; exact HF.out⟩, HBF.out⟩
       ·rw [if_neg hcmp] at HST
        rw [decide_eq_false hcmp] at CB
        go_wp2_with fail
        refine CB.out.mono ?_
        rintro e w3 ⟨rfl, hb3⟩
        have HF := hid ((HRN.out.below hb3).more hb3.size)
        have HLF := hid ((HLN.out.below hb3).more hb3.size)
        have HBF := hid (HBW.out.trans (hb3.mono HBW.out.size))
        clear hb3
        have CF := off_any An AL 17 cn cL (digs B u 17) (digs B LL 17) w3 (by omega) HF.out HLF.out (digs_all (by decide) _ _) (digs_all (by decide) _ _) (by rw [val17 hul, val17 LL_17]; omega)
        rw [val17 hul, val17 LL_17] at CF
        have CF := hid CF
        go_wp2_with fail
        refine CF.out.mono ?_
        rintro e w4 ⟨vo, rfl, hown4, hb4⟩
        have HR4 := hid (Rd17.of_own hown4)
        have HB4 := hid (HBF.out.trans (hb4.mono HBF.out.size))
        clear hown4 hb4
        go_wp2_with fail
        go_roundg G2
        case measure => have := hG2.out; omega
        case rel => exact ⟨j, K2, rfl, hG2.out.2.1, by have := hG2.out; omega, hKK.out, by rw [HST.out]; exact HR4.out, HB4.out⟩
    ·obtain rfl : q = 0 := by omega
     rw [if_pos rfl] at hK
     subst hK
     rw [Nat.add_zero] at hRr
     have HRr := hid hRr
     have HBEL := hid hbel
     clear hRr hbel hgq hq16 hq0
     go_wp2_with fail
     go_roundg G
     case measure => have := hG.out; omega
     case rel => exact ⟨i, rfl, hG.out.2.1, by have := hG.out; omega, ⟨_, _, rfl, HRr.out⟩, HBEL.out⟩
  ·obtain rfl : j = 0 := by omega
   subst hiv
   obtain ⟨Ar, cr, rfl, hRr⟩ := hrj
   rw [Nat.mul_zero, Nat.pow_zero, Nat.div_one, hDD.out] at hRr
   obtain ⟨v, hv⟩ := named (val B d % LL)
   rw [← hv.out] at hRr
   have HRr := hid hRr
   have HBW := hid (HW0.out.trans (hbel.mono HZ0.out))
   have hoe := owns_empty wr
   have hb0 := below_new1 wr (.cells #[] 5)
   clear hbel hRr hg hj hlt
   go_wp2_with fail
   generalize wr.alloc (.cells #[] 5) = Wn at *
   generalize wr = W2 at *
   go_loopg [11, 12] 16 (fun gg ov iv w1 => ∃ k : Nat, iv = .int .i64 (k : Int) ∧ gg + k = 16 ∧ w1.ownsRow W2.heap.size 5 1 ov (2 * k) (Lib.byteCells ((fbytes v).take (2 * k))) ∧ Below W2.heap.size W2 w1)
   case atStart => exact ⟨0, rfl, rfl, hoe, hb0⟩
   case round =>
    obtain ⟨k, rfl, hgk, hown, hbel⟩ := hrel
    clear hoe hb0
    have hsz := hbel.size
    by_cases hlt : k < 16
    ·obtain ⟨ad, rfl, hadB, hx⟩ := reads_u (HRr.out.below hbel) (k := k) (by omega)
     rw [digs_getD _ _ _ _ (by omega), limb_bytes] at hx
     have hpb : (ad.add k).block < W2.heap.size := by rw [block_of_add]; exact hadB
     have hy0 := fbytes_get v (2 * k) (by omega)
     have hy1 := fbytes_get v (2 * k + 1) (by omega)
     have HT := hid (fbytes_two v k hlt)
     obtain ⟨y0, hY0⟩ : ∃ y, Hid (y = (fbytes v).getD (2 * k) 0) := ⟨_, hid rfl⟩
     obtain ⟨y1, hY1⟩ : ∃ y, Hid (y = (fbytes v).getD (2 * k + 1) 0) := ⟨_, hid rfl⟩
     rw [← hY0.out] at hy0 HT
     rw [← hY1.out] at hy1 HT
     rw [← hy0, ← hy1] at hx
     have l0 := y0.toNat_lt
     have l1 := y1.toNat_lt
     obtain ⟨x, hX⟩ := named (y0.toNat + 256 * y1.toNat)
     rw [← hX.out] at hx
     obtain ⟨p, hp⟩ := named (x / 256)
     obtain ⟨q, hq⟩ := named (x % 256)
     have d1 : (x : Int) / 256 = (p : Int) := by rw [hp.out]; omega
     have d2 : (x : Int).tdiv 256 = (p : Int) := by rw [Int.tdiv_eq_ediv_of_nonneg (by omega)]; omega
     have d3 : (x : Int) % 256 = (q : Int) := by rw [hq.out]; omega
     have d4 : (x : Int).tmod 256 = (q : Int) := by rw [Int.tmod_eq_emod_of_nonneg (by omega)]; omega
     have w0 : IntKind.u8.wrap (q : Int) = (y0.toNat : Int) := by rw [IntKind.wrap_u8', hq.out, hX.out]; omega
     have w1' : IntKind.u8.wrap (p : Int) = (y1.toNat : Int) := by rw [IntKind.wrap_u8', hp.out, hX.out]; omega
     have w2' : IntKind.u64.wrap (p : Int) = (p : Int) := by rw [IntKind.wrap_u64, hp.out, hX.out]; omega
     have w3' : IntKind.u64.wrap (q : Int) = (q : Int) := by rw [IntKind.wrap_u64, hq.out, hX.out]; omega
     have hki : (k : Int) < 17 := by omega
     have hki2 : (k : Int) < 16 := by omega
     have hwk : IntKind.i64.wrap ((k : Int) + 1) = (k : Int) + 1 := IntWalk.i64_in _ (by omega)
     have hrd := reads_two wr y0 y1
     have hwl : Hid (W2.heap.size ≤ wr.heap.size) := hid hsz
     have HPB := hid hpb
     have HB2 := hid hbel
     have hib := HIB.out
     have HK1 := hid (show gk + k = 16 ∧ k < 16 from ⟨hgk, hlt⟩)
     clear hy0 hy1 hgk
     go_wp2_with fail
     go_region_held3 (fun w' => w'.cell? (ad.add k) = some (Value.int .u64 (x : Int)))
      (first
       | go_keep
       | (rw [World.cell?_of_block (hgrow1.block (ad.add k).block (by have := hwl.out; have := HPB.out; simp; omega) (fun e => by have h9 := (hown.lt _ e.symm).1; have := HPB.out; omega))]; assumption))
      ((refine step_append_any _ (by rfl) _ _ 22 (by rfl) W2.heap.size 5 ib (.int .u8 0) 1 1 Tryz.underlying22 hib hzb0 hzb1 hzb2 rfl (by decide) _ _ _ (by rfl) ((hown.alloc _).drew) (wr.heap.size + 1) _ 2 2 (Lib.byteCells [y0, y1]) (by rfl) (by exact hrd) (Lib.byteCells_one _) (by unfold maxLen; omega) (by omega) (by have := hwl.out; simp; omega) ?_; intro v1 w1 hown1 hgrow1 hat1))
     all_goals
      have hown2 : w1.ownsRow W2.heap.size 5 1 v1 (2 * (k + 1)) (Lib.byteCells ((fbytes v).take (2 * (k + 1)))) := by
       rw [HT.out, Lib.byteCells_append, show 2 * (k + 1) = 2 * k + 2 by omega]
       exact hown1
      have hbel2 : Below W2.heap.size W2 w1 := ((hbel.alloc hsz _).drew).grown hgrow1 (by simp; omega) (fun k hk => by have := (hown.lt k hk).1; omega)
      have HO2 := hid hown2
      clear hown hown1 hown2 hgrow1 hat1 hrd
      go_wp2
      go_roundg (gk - 1)
      case measure => have := HK1.out; omega
      case rel => exact ⟨k + 1, by go_num, by have := HK1.out; omega, HO2.out, hbel2⟩
    ·obtain rfl : k = 16 := by omega
     rw [show 2 * 16 = 32 from rfl, List.take_of_length_le (by rw [fbytes_length]; omega)] at hown
     have hfin := own_more64 hown HBW.out.size
     have HO := hid hfin
     have HBF := hid (HBW.out.trans (hbel.mono HBW.out.size))
     clear hown hbel hfin
     go_wp2_with fail
     go_ret
     exact ⟨_, rfl, by rw [← hv.out]; exact HO.out, HBF.out⟩
end Go.Proofs.YtcfogpeinjehbaaGreatDoor
end

section
namespace Go.Proofs.YtcfogpeinjehbaaGreatDoor
open Go Go.Proofs Go.RowKit F5
/-- 32 new bytes. -/
def Byt32 (v : Nat) (w : World) (e : Ending) (w' : World) : Prop := ∃ r, e = .returned r ∧ w'.ownsRow w.heap.size 5 1 r 32 (Lib.byteCells (fbytes v)) ∧ Below w.heap.size w w'
theorem reduce_any (A : Option Addr) (n c : Nat) (l : List UInt8) (w : World) (hn : n ≤ 1000) (hr : Reads w w.heap.size 1 A n (Lib.byteCells l)) :
  Calls Tryz.prog 60 #[.slice A n c] w (Byt32 (bval l % LL) w) := by
 have hl : l.length = n := by have := hr.1; rw [Lib.byteCells_length] at this; omega
 have CD := hid (digits_any A n c l w hn hr)
 have HL := hid hl
 clear hr hl
 go_enter Tryz.func60, Tryz.ntmps60
 go_wp2_with fail
 refine CD.out.mono ?_
 rintro e w1 ⟨v, d, rfl, hd1, hd2, hd3, hown, hb1⟩
 obtain ⟨A1, c1, rfl, _⟩ := own_slice hown
 have CR := rest_any A1 d.length c1 d w1 (by rw [hd1, HL.out]; omega) (Reads.of_own hown) hd2
 rw [hd3] at CR
 have CR := hid CR
 have HB1 := hid hb1
 clear hown hb1 hd1 hd2 hd3
 go_wp2_with fail
 refine CR.out.mono ?_
 rintro e w2 ⟨r, rfl, ho2, hb2⟩
 have HO := hid (own_more64 ho2 HB1.out.size)
 have HB2 := hid (HB1.out.trans (hb2.mono HB1.out.size))
 clear ho2 hb2
 go_wp2_with fail
 go_ret
 exact ⟨_, rfl, HO.out, HB2.out⟩
theorem Blk.u64at {w : World} {g t : Nat} {L : List Nat} (h : Blk w g t (u64s L)) (k : Nat) (hk : k < L.length) : w.cell? ⟨g, k, none⟩ = some (.int .u64 ((L.getD k 0 : Nat) : Int)) := (h.cell k).trans (u64s_get L k hk)
theorem Blk.u64put {w : World} {g t : Nat} {L : List Nat} (h : Blk w g t (u64s L)) (i s : Nat) : Blk (w.setCell ⟨g, i, none⟩ (.int .u64 (s : Int))) g t (u64s (L.set i s)) := by
 have := h.set_ i (.int .u64 (s : Int))
 rwa [u64s_set] at this
theorem Blk.reads {w : World} {g : Nat} {L : List Nat} (h : Blk w g 40 (u64s L)) : Reads w w.heap.size 1 (some ⟨g, 0, none⟩) L.length (U L) := by
 refine ⟨by rw [U_length, Nat.mul_one], fun _ => ⟨_, rfl, h.lt, fun j u hj => ?_⟩⟩
 rw [show (⟨g, 0, none⟩ : Addr).add j = ⟨g, j, none⟩ from by unfold Addr.add; split <;> simp_all]
 rw [h.cell]
 simpa [u64s, U] using hj
theorem made34 : madeCells #[Value.int .u64 0] 34 = u64s (List.replicate 34 0) := by kernel_rfl
/-- The product's digits stand in a block; what is below it is as it was. -/
def MulAt (W : World) (g : Nat) (L : List Nat) (wr : World) : Prop := Blk wr g 40 (u64s L) ∧ Below g W wr
theorem MulAt.put {W wr : World} {g : Nat} {L : List Nat} (h : MulAt W g L wr) (i s : Nat) : MulAt W g (L.set i s) (wr.setCell ⟨g, i, none⟩ (.int .u64 (s : Int))) := ⟨h.1.u64put i s, h.2.setCell (by show g ≤ g; omega) _⟩
theorem MulAt.drew {W wr : World} {g : Nat} {L : List Nat} (h : MulAt W g L wr) : MulAt W g L wr.drew := ⟨h.1.drew, h.2.drew⟩
set_option maxHeartbeats 16000000 in
set_option maxRecDepth 100000 in
theorem muladd_any (A1 A2 A3 : Option Addr) (c1 c2 c3 : Nat) (l1 l2 l3 : List UInt8) (w : World) (hr1 : Reads w w.heap.size 1 A1 32 (Lib.byteCells l1)) (hr2 : Reads w w.heap.size 1 A2 32 (Lib.byteCells l2)) (hr3 : Reads w w.heap.size 1 A3 32 (Lib.byteCells l3)) :
  Calls Tryz.prog 25 #[.slice A1 32 c1, .slice A2 32 c2, .slice A3 32 c3] w (Byt32 ((bval l1 * bval l2 + bval l3) % LL) w) := by
 have len : ∀ {A : Option Addr} {l : List UInt8}, Reads w w.heap.size 1 A 32 (Lib.byteCells l) → l.length = 32 := fun h => by have := h.1; rw [Lib.byteCells_length] at this; omega
 have hL1 := len hr1
 have hL2 := len hr2
 have hL3 := len hr3
 have b256 : ∀ {l : List UInt8}, l.length = 32 → bval l < 2 ^ 256 := fun {l} h => by have := bval_lt l; rwa [h] at this
 have HX := hid (b256 hL1)
 have HY := hid (b256 hL2)
 have HZ := hid (b256 hL3)
 have CD1 := hid (digits_any A1 32 c1 l1 w (by omega) hr1)
 have HR2 := hid hr2
 have HR3 := hid hr3
 have HL1 := hid hL1
 have HL2 := hid hL2
 have HL3 := hid hL3
 obtain ⟨z34, hz34⟩ : ∃ z, Hid (z = u64s (List.replicate 34 0)) := ⟨_, hid rfl⟩
 have hmk : ∀ W : World, (Instr.makeSlice 96 (.int .i64 34) (.int .i64 34)).run Tryz.prog W = .ok (.slice (some ⟨W.heap.size, 0, none⟩) 34 34) (W.alloc (.cells z34 40)) := fun W => by
  rw [hz34.out, ← made34]
  exact run_make_row' (P := Tryz.prog) 96 40 (.int .u64 0) 8 Tryz.underlying96 infoU64 rfl .i64 .i64 34 (by omega) (by omega) W
 obtain ⟨X, hX⟩ := named (bval l1)
 obtain ⟨Y, hY⟩ := named (bval l2)
 obtain ⟨Z, hZ⟩ := named (bval l3)
 rw [← hX.out] at HX
 rw [← hY.out] at HY
 rw [← hZ.out] at HZ
 rw [← hX.out, ← hY.out, ← hZ.out]
 clear hr1 hr2 hr3 len b256 hL1 hL2 hL3
 go_enter Tryz.func25, Tryz.ntmps25
 go_wp2_with fail
 refine CD1.out.mono ?_
 rintro e w1 ⟨v, dx, rfl, hd1, hd2, hd3, hown, hb1⟩
 obtain ⟨B1, e1, rfl, _⟩ := own_slice hown
 rw [HL1.out] at hd1
 have hdx : dx = digs B X 16 := by rw [hX.out]; exact digs_of hd2 hd1 hd3
 rw [hd1] at hown
 have HRX := hid (Reads.of_own hown)
 have HB1 := hid hb1
 have CD2 := hid (digits_any A2 32 c2 l2 w1 (by omega) ((HR2.out.below hb1).more hb1.size))
 clear hown hb1 hd2 hd3
 rw [show dx.length = 16 from hd1]
 clear hd1
 go_wp2_with fail
 refine CD2.out.mono ?_
 rintro e w2 ⟨v, dy, rfl, hd1, hd2, hd3, hown, hb1⟩
 obtain ⟨B2, e2, rfl, _⟩ := own_slice hown
 rw [HL2.out] at hd1
 have hdy : dy = digs B Y 16 := by rw [hY.out]; exact digs_of hd2 hd1 hd3
 rw [hd1] at hown
 have HRY := hid (Reads.of_own hown)
 have HRX := hid ((HRX.out.below hb1).more hb1.size)
 have HB1 := hid (HB1.out.trans (hb1.mono HB1.out.size))
 have CD3 := hid (digits_any A3 32 c3 l3 w2 (by omega) ((HR3.out.below HB1.out).more HB1.out.size))
 clear hown hb1 hd2 hd3
 rw [show dy.length = 16 from hd1]
 clear hd1
 go_wp2_with fail
 refine CD3.out.mono ?_
 rintro e w3 ⟨v, dz, rfl, hd1, hd2, hd3, hown, hb1⟩
 obtain ⟨B3, e3, rfl, _⟩ := own_slice hown
 rw [HL3.out] at hd1
 have hdz : dz = digs B Z 16 := by rw [hZ.out]; exact digs_of hd2 hd1 hd3
 rw [hd1] at hown
 have HRZ := hid (Reads.of_own hown)
 have HRY := hid ((HRY.out.below hb1).more hb1.size)
 have HRX := hid ((HRX.out.below hb1).more hb1.size)
 have HB1 := hid (HB1.out.trans (hb1.mono HB1.out.size))
 clear hown hb1 hd2 hd3 CD1 CD2 CD3 HR2 HR3
 rw [show dz.length = 16 from hd1]
 clear hd1
 subst hdx hdy hdz
 have hm0 : MulAt w3 w3.heap.size (List.replicate 34 0) (w3.alloc (.cells z34 40)) := by
  rw [hz34.out]; exact ⟨Blk.new _ _ _, below_new1 _ _⟩
 have HM0 := hid hm0
 clear hm0
 go_wp2_with fail
 generalize w3.alloc (.cells z34 40) = W at *
 clear hmk
 obtain ⟨g, hg⟩ := named w3.heap.size
 rw [← hg.out] at HM0 HRX HRY HRZ ⊢
 go_loopg [11] 16 (fun gg iv wr => ∃ i L, iv = .int .i64 (i : Nat) ∧ gg + i = 16 ∧ MulZ X Y Z i 0 0 L ∧ MulAt w3 g L wr)
 case atStart => exact ⟨0, _, rfl, rfl, MulZ.zero, HM0.out⟩
 case round =>
  obtain ⟨i, L, rfl, hgk, hL, hT⟩ := hrel
  clear HM0
  by_cases hlt : i < 16
  ·obtain ⟨G, hG⟩ : ∃ G, Hid (gk = G + 1 ∧ G + (i + 1) = 16) := ⟨gk - 1, hid ⟨by omega, by omega⟩⟩
   have hx := hT.1.u64at i (by rw [hL.1]; omega)
   obtain ⟨ad, rfl, hadB, hy⟩ := reads_u (HRZ.out.below hT.2) hlt
   rw [digs_at hlt] at hy
   have hf := hT.1.frozen i
   have hxl := hL.2.1 i
   have hyl : Z / B ^ i % B ≤ 65535 := Nat.le_of_lt_succ (lim_lt Z i)
   have hnl := hL.add hlt
   obtain ⟨x, hX⟩ := named (L.getD i 0)
   obtain ⟨y, hY⟩ := named (Z / B ^ i % B)
   rw [← hX.out, ← hY.out] at hnl
   rw [← hX.out] at hx hxl
   rw [← hY.out] at hy hyl
   obtain ⟨s, hs⟩ := named (x + y)
   have cs := wrap_sum x y s (by rw [hs.out]; unfold M; omega)
   rw [← hs.out] at hnl
   have hii : (i : Int) < 16 := by omega
   have hii2 : (i : Int) < 34 := by omega
   have hne : ad.block ≠ g := by omega
   have HNL := hid hnl
   have n1 := hid (hT.put i s)
   have n2 := hid (hT.drew.put i s)
   clear hT hL hnl hxl hyl hgk
   go_wp2
   go_region
   have hnd := hid n1.out.drew
   clear n1
   go_wp2
   go_loopg [12] 16 (fun g0 kv w1 => ∃ k L1, kv = .int .i64 (k : Nat) ∧ g0 + k = 16 ∧ MulZ X Y Z i k 1 L1 ∧ MulAt w3 g L1 w1)
   case atStart => exact ⟨0, _, rfl, rfl, HNL.out, (by first | exact hnd.out | exact n2.out)⟩
   case round =>
    obtain ⟨k, L1, rfl, hgk, hL1, hT1⟩ := hrel
    clear HNL hnd n2
    by_cases hk : k < 16
    ·have ha := hT1.1.u64at (i + k) (by rw [hL1.1]; omega)
     obtain ⟨ax, rfl, _, hx⟩ := reads_u (HRX.out.below hT1.2) hlt
     obtain ⟨ay, rfl, _, hy⟩ := reads_u (HRY.out.below hT1.2) hk
     rw [digs_at hlt] at hx
     rw [digs_at hk] at hy
     have hf := hT1.1.frozen (i + k)
     have hal1 := hL1.2.1 (i + k)
     have hxl := lim_lt X i
     have hyl := lim_lt Y k
     have hnl := hL1.next hlt hk
     obtain ⟨a, hA⟩ := named (L1.getD (i + k) 0)
     obtain ⟨x, hX⟩ := named (X / B ^ i % B)
     obtain ⟨y, hY⟩ := named (Y / B ^ k % B)
     rw [← hA.out, ← hX.out, ← hY.out] at hnl
     rw [← hA.out] at ha hal1
     rw [← hX.out] at hx hxl
     rw [← hY.out] at hy hyl
     have hpl : x * y ≤ 65535 * 65535 := Nat.mul_le_mul (Nat.le_of_lt_succ hxl) (Nat.le_of_lt_succ hyl)
     obtain ⟨q, hq⟩ := named (x * y)
     rw [← hq.out] at hnl hpl
     have cq := wrap_mul x y q (by rw [hq.out] at hpl ⊢; unfold M; omega)
     obtain ⟨s, hs⟩ := named (a + q)
     have cs := wrap_sum a q s (by rw [hs.out]; unfold M; omega)
     rw [← hs.out] at hnl
     have i1 : IntKind.i64.wrap ((i : Int) + (k : Int)) = (i : Int) + (k : Int) := IntWalk.i64_in _ (by omega)
     have t0 : ((i : Int) + (k : Int)).toNat = i + k := by omega
     have q0 : (0 : Int) ≤ (i : Int) + (k : Int) := by omega
     have q2 : (i : Int) + (k : Int) < 34 := by omega
     have hki : (k : Int) < 16 := by omega
     have HNL := hid hnl
     have n1 := hid (hT1.put (i + k) s)
     have n2 := hid (hT1.drew.put (i + k) s)
     clear hT1 hL1 hnl hxl hyl hpl hal1
     go_wp2
     go_region
     have hnd := hid n1.out.drew
     clear n1
     go_wp2
     go_roundg (gk - 1)
     case measure => omega
     case rel => exact ⟨k + 1, L1.set (i + k) s, by go_num, by omega, HNL.out, (by first | exact hnd.out | exact n2.out)⟩
    ·obtain rfl : k = 16 := by omega
     have HL1 := hid (hL1.row HY.out)
     have HT1 := hid hT1
     clear hL1 hT1
     go_wp2
     go_roundg G
     case measure => have := hG.out; omega
     case rel => exact ⟨i + 1, L1, by go_num, hG.out.2, HL1.out, HT1.out⟩
  ·obtain rfl : i = 16 := by omega
   obtain ⟨hl, hsm, hv⟩ := hL.done HX.out HZ.out
   have HT := hid hT
   have HL := hid hl
   have HS := hid hsm
   have HV := hid hv
   clear hT hL hl hsm hv HRX HRY HRZ hgk hlt
   go_wp2
   go_loopg [13, 65] 34 (fun g0 cv iv w1 => ∃ (k cc : Nat) (L1 : List Nat), cv = .int .u64 (cc : Int) ∧ iv = .int .i64 (k : Int) ∧ g0 + k = 34 ∧ Pass L k L1 cc ∧ cc ≤ 33554432 ∧ MulAt w3 g L1 w1)
   case atStart => exact ⟨0, 0, L, rfl, rfl, rfl, Pass.zero L, by omega, HT.out⟩
   case round =>
    obtain ⟨k, cc, L1, rfl, rfl, hgk, hP, hcc, hT1⟩ := hrel
    clear HT
    by_cases hk : k < 34
    ·have hl1 : L1.length = 34 := hP.1.trans HL.out
     have ha := hT1.1.u64at k (by omega)
     have hf := hT1.1.frozen k
     have hal := HS.out k
     rw [hP.2.2.1 k (Nat.le_refl _)] at ha
     have hnx : Hid (∀ s, s = L.getD k 0 + cc → Pass L (k + 1) (L1.set k (s % B)) (s / B)) := hid fun s hs => hP.next (by rw [HL.out]; exact hk) hs
     obtain ⟨x, hX⟩ := named (L.getD k 0)
     rw [← hX.out] at ha hal hnx
     obtain ⟨s, hs⟩ := named (x + cc)
     obtain ⟨e, he⟩ := named (s / 65536)
     obtain ⟨r, hr⟩ := named (s % 65536)
     have c1 := wrap_sum x cc s (by rw [hs.out]; unfold M; omega)
     have c3 : IntKind.u64.wrap (e : Int) = (e : Int) := by rw [IntKind.wrap_u64, he.out, hs.out]; omega
     have c4 : IntKind.u64.wrap (r : Int) = (r : Int) := by rw [IntKind.wrap_u64, hr.out]; omega
     have f1 : (s : Int) / 65536 = (e : Int) := by rw [he.out]; omega
     have f2 : (s : Int).tdiv 65536 = (e : Int) := by rw [Int.tdiv_eq_ediv_of_nonneg (by omega)]; omega
     have f3 : (s : Int) % 65536 = (r : Int) := by rw [hr.out]; omega
     have f4 : (s : Int).tmod 65536 = (r : Int) := by rw [Int.tmod_eq_emod_of_nonneg (by omega)]; omega
     have hel : e ≤ 33554432 := by rw [he.out, hs.out]; omega
     have HN : Hid (Pass L (k + 1) (L1.set k r) e) := hid (by
      have := hnx.out s hs.out
      rw [he.out, hr.out]; exact this)
     have n1 := hid ((hT1.put k s).put k r)
     rw [List.set_set] at n1
     have hki : (k : Int) < 34 := by omega
     have hwk : IntKind.i64.wrap ((k : Int) + 1) = (k : Int) + 1 := IntWalk.i64_in _ (by omega)
     clear hT1 hP hal hX hnx hl1
     go_wp2
     go_roundg (gk - 1)
     case measure => omega
     case rel => exact ⟨k + 1, e, L1.set k r, rfl, by go_num, by omega, HN.out, hel, n1.out⟩
    ·obtain rfl : k = 34 := by omega
     have hxy : X * Y + Z < B ^ 34 := by
      have h1 := Nat.mul_le_mul (Nat.le_of_lt HX.out) (Nat.le_of_lt HY.out)
      have h2 := HZ.out
      have h3 : (2 : Nat) ^ 256 * 2 ^ 256 + 2 ^ 256 < B ^ 34 := by decide
      omega
     obtain ⟨h1, h2⟩ := hP.full HL.out (by rw [HV.out]; exact hxy)
     have hl1 : L1.length = 34 := hP.1.trans HL.out
     have hrd := hT1.1.reads
     rw [hl1] at hrd
     have CR := rest_any (some ⟨g, 0, none⟩) 34 34 L1 wr (by omega) hrd h1
     rw [h2, HV.out] at CR
     have CR := hid CR
     have HBF := hid (HB1.out.trans ((hT1.2.mono (show w.heap.size ≤ g by rw [hg.out]; exact HB1.out.size))))
     clear hP hT1 hrd h1 h2 hl1 hxy hcc
     go_wp2_with fail
     refine CR.out.mono ?_
     rintro e w5 ⟨r, rfl, ho5, hb5⟩
     have HO := hid (own_more64 ho5 HBF.out.size)
     have HB5 := hid (HBF.out.trans (hb5.mono HBF.out.size))
     clear ho5 hb5
     go_wp2_with fail
     go_ret
     exact ⟨_, rfl, HO.out, HB5.out⟩
end Go.Proofs.YtcfogpeinjehbaaGreatDoor
end

section
namespace Go.Proofs.YtcfogpeinjehbaaGreatDoor
open Go Go.Proofs Go.RowKit F5
theorem step_of_wpG {P : Program} {ops : Array Oper} {o : Oper} {a : Act} {K : Act → World → Prop} {Q : Exit → Act → World → Prop} {E : Prop} {w : World} (hw : Region.wanted o (yielded ops a.tmps) = true) (h : Oper.wp P o a w K Q) :
  if Region.wanted o (yielded ops a.tmps) = true then Oper.wp P o a w K Q else E := by
 rw [if_pos hw]; exact h
def mayB (l : List UInt8) : Bool := decide (l.length = 32 ∧ bval l < LL)
theorem mayB_eq {l : List UInt8} (h : l.length = 32) : decide (fbytes (bval l % LL) = l) = mayB l := by
 have hb : bval l < 2 ^ 256 := by have := bval_lt l; rwa [h] at this
 have hm : bval l % LL < 2 ^ 256 := Nat.lt_trans (Nat.mod_lt _ LL_pos) (by decide)
 unfold mayB
 rw [decide_eq_decide]
 constructor
 ·intro e
  have h2 := congrArg bval e
  rw [bval_fbytes hm] at h2
  exact ⟨h, by rw [← h2]; exact Nat.mod_lt _ LL_pos⟩
 ·rintro ⟨_, h2⟩
  rw [Nat.mod_eq_of_lt h2]
  obtain ⟨v, hv, rfl⟩ := fbytes_of l h
  rw [bval_fbytes hv]
theorem mayB_no {l : List UInt8} (h : l.length ≠ 32) : mayB l = false := decide_eq_false fun h2 => h h2.1
set_option maxHeartbeats 4000000 in
set_option maxRecDepth 100000 in
theorem may_any (A : Option Addr) (n c : Nat) (l : List UInt8) (w : World) (hn : n ≤ 1000) (hr : Reads w w.heap.size 1 A n (Lib.byteCells l)) :
  Calls Tryz.prog 31 #[.slice A n c] w fun e w' => e = .returned (.bool (mayB l)) ∧ Below w.heap.size w w' := by
 have hl : l.length = n := by have := hr.1; rw [Lib.byteCells_length] at this; omega
 have HR := hid hr
 have HB0 := hid ((Below.refl w.heap.size w).drew)
 by_cases h32 : n = 32
 ·subst h32
  have HM := hid (mayB_eq hl)
  clear hr hl
  go_enter Tryz.func31, Tryz.ntmps31
  go_wp2_with fail
  refine wp_region_held_drew (S := fun V => Below w.heap.size w V) (by kernel_rfl) HB0.out (fun hHeld => ?_)
  generalize w.drew = W0 at *
  refine' wpAnyH_take (i := 0) (oi := _) (v := _) ?hit0 ?hst0 ?hft0 ?hrt0 ?hQt0 ?hyt0 ?hSt0 ?_
  case hit0 => (simp only [zD, zE, zF]; rfl)
  case hst0 | hft0 | hrt0 => kernel_rfl
  case hQt0 => exact fun _ _ _ h => h
  case hSt0 => assumption
  case hyt0 =>
   refine Or.inl ⟨by rfl, ?_⟩
   intro w hSw
   (try dsimp only at hSw)
   go_simp
   all_goals (with_reducible rfl)
  (try simp only [Act.put, zA, zB, zC])
  refine' wpAnyH_take (i := 1) (oi := _) (v := _) ?hit1 ?hst1 ?hft1 ?hrt1 ?hQt1 ?hyt1 ?hSt1 ?_
  case hit1 => (simp only [zD, zE, zF]; rfl)
  case hst1 | hft1 | hrt1 => kernel_rfl
  case hQt1 => exact fun _ _ _ h => h
  case hSt1 => assumption
  case hyt1 =>
   refine Or.inl ⟨by rfl, ?_⟩
   intro w hSw
   (try dsimp only at hSw)
   go_simp
   all_goals (with_reducible rfl)
  (try simp only [Act.put, zA, zB, zC])
  refine' wpAnyH_take (i := 2) (oi := _) (v := _) ?hit2 ?hst2 ?hft2 ?hrt2 ?hQt2 ?hyt2 ?hSt2 ?_
  case hit2 => (simp only [zD, zE, zF]; rfl)
  case hst2 | hft2 | hrt2 => kernel_rfl
  case hQt2 => exact fun _ _ _ h => h
  case hSt2 => assumption
  case hyt2 =>
   refine Or.inl ⟨by rfl, ?_⟩
   intro w hSw
   (try dsimp only at hSw)
   go_simp
   all_goals (with_reducible rfl)
  (try simp only [Act.put, zA, zB, zC])
  refine' wpAnyH_take (i := 3) (oi := _) (v := _) ?hit3 ?hst3 ?hft3 ?hrt3 ?hQt3 ?hyt3 ?hSt3 ?_
  case hit3 => (simp only [zD, zE, zF]; rfl)
  case hst3 | hft3 | hrt3 => kernel_rfl
  case hQt3 => exact fun _ _ _ h => h
  case hSt3 => assumption
  case hyt3 =>
   refine Or.inl ⟨by rfl, ?_⟩
   intro w hSw
   (try dsimp only at hSw)
   go_simp
   all_goals (with_reducible rfl)
  (try simp only [Act.put, zA, zB, zC])
  refine' wpAnyH_take (i := 4) (oi := _) (v := _) ?hit4 ?hst4 ?hft4 ?hrt4 ?hQt4 ?hyt4 ?hSt4 ?_
  case hit4 => (simp only [zD, zE, zF]; rfl)
  case hst4 | hft4 | hrt4 => kernel_rfl
  case hQt4 => exact fun _ _ _ h => h
  case hSt4 => assumption
  case hyt4 =>
   refine Or.inl ⟨by rfl, ?_⟩
   intro w hSw
   (try dsimp only at hSw)
   go_simp
   all_goals (with_reducible rfl)
  (try simp only [Act.put, zA, zB, zC])
  refine' wpAnyH_take (i := 7) (oi := _) (v := _) ?hit7 ?hst7 ?hft7 ?hrt7 ?hQt7 ?hyt7 ?hSt7 ?_
  case hit7 => (simp only [zD, zE, zF]; rfl)
  case hst7 | hft7 | hrt7 => kernel_rfl
  case hQt7 => exact fun _ _ _ h => h
  case hSt7 => assumption
  case hyt7 =>
   refine Or.inl ⟨by rfl, ?_⟩
   intro w hSw
   (try dsimp only at hSw)
   go_simp
   all_goals (with_reducible rfl)
  (try simp only [Act.put, zA, zB, zC])
  refine' wpAnyH_take (i := 8) (oi := _) (v := .string ⟨l.toArray⟩) ?hit8 ?hst8 ?hft8 ?hrt8 ?hQt8 ?hyt8 ?hSt8 ?_
  case hit8 => (simp only [zD, zE, zF]; rfl)
  case hst8 | hft8 | hrt8 => kernel_rfl
  case hQt8 => exact fun _ _ _ h => h
  case hSt8 => assumption
  case hyt8 =>
   refine Or.inl ⟨by rfl, ?_⟩
   intro W hS
   exact quiet_back (.tmp 10) A 32 c _ l rfl (HR.out.below hS) rfl
  (try simp only [Act.put, zA, zB, zC])
  refine wpAnyH_ready (rs := [5]) (by kernel_rfl) (by simp) ?_
  refine' AllReadyH.cons (o := _) ?hir5 (fun K hK => ?_) AllReadyH.nil
  case hir5 => (simp only [zD, zE, zF]; rfl)
  go_simp
  refine (reduce_any A 32 c l _ (by omega) ((HR.out.below HB0.out).more HB0.out.size)).mono ?_
  rintro e w6 ⟨v6, rfl, ho6, hb6⟩
  obtain ⟨A6, c6, rfl, _⟩ := own_slice ho6
  have HR6 := hid (Reads.of_own ho6)
  have HB6 := hid (HB0.out.trans (hb6.mono HB0.out.size))
  clear ho6 hb6
  go_wp2_with fail
  refine hK.out _ _ ?_ (fun hHeld => ?_)
  exact HB6.out
  clear hK K
  (try simp only [Act.put, zA, zB, zC])
  refine wpAnyH_ready (rs := [6]) (by kernel_rfl) (by simp) ?_
  refine' AllReadyH.cons (o := _) ?hir6 (fun K hK => ?_) AllReadyH.nil
  case hir6 => (simp only [zD, zE, zF]; rfl)
  refine step_of_wpG (by rfl) ?_
  refine wp_back (.tmp 8) A6 32 c6 _ (fbytes (bval l % LL)) rfl HR6.out rfl ?_
  refine hK.out _ _ ?_ (fun hHeld => ?_)
  exact HB6.out
  clear hK K
  (try simp only [Act.put, zA, zB, zC])
  refine' wpAnyH_take (i := 9) (oi := _) (v := _) ?hit9 ?hst9 ?hft9 ?hrt9 ?hQt9 ?hyt9 ?hSt9 ?_
  case hit9 => (simp only [zD, zE, zF]; rfl)
  case hst9 | hft9 | hrt9 => kernel_rfl
  case hQt9 => exact fun _ _ _ h => h
  case hSt9 => assumption
  case hyt9 =>
   refine Or.inl ⟨by rfl, ?_⟩
   intro w hSw
   (try dsimp only at hSw)
   go_simp
   all_goals (with_reducible rfl)
  (try simp only [Act.put, zA, zB, zC])
  refine' wpAnyH_take (i := 10) (oi := _) (v := _) ?hit10 ?hst10 ?hft10 ?hrt10 ?hQt10 ?hyt10 ?hSt10 ?_
  case hit10 => (simp only [zD, zE, zF]; rfl)
  case hst10 | hft10 | hrt10 => kernel_rfl
  case hQt10 => exact fun _ _ _ h => h
  case hSt10 => assumption
  case hyt10 =>
   refine Or.inl ⟨by rfl, ?_⟩
   intro w hSw
   (try dsimp only at hSw)
   go_simp
   all_goals (with_reducible rfl)
  (try simp only [Act.put, zA, zB, zC])
  refine' wpAnyH_take (i := 11) (oi := _) (v := _) ?hit11 ?hst11 ?hft11 ?hrt11 ?hQt11 ?hyt11 ?hSt11 ?_
  case hit11 => (simp only [zD, zE, zF]; rfl)
  case hst11 | hft11 | hrt11 => kernel_rfl
  case hQt11 => exact fun _ _ _ h => h
  case hSt11 => assumption
  case hyt11 =>
   refine Or.inl ⟨by rfl, ?_⟩
   intro w hSw
   (try dsimp only at hSw)
   go_simp
   all_goals (with_reducible rfl)
  (try simp only [Act.put, zA, zB, zC])
  refine wpAnyH_done (by kernel_rfl) ?_ _
  clear hHeld
  go_wp2_with fail
  go_ret
  refine ⟨?_, HB6.out⟩
  show Ending.returned (.bool _) = _
  rw [← HM.out]
  refine congrArg (fun b => Ending.returned (Value.bool b)) ?_
  rw [Bool.eq_iff_iff]
  simp
 ·have hne : ((n : Int) == 32) = false := by rw [beq_eq_false_iff_ne]; omega
  have HM := hid (mayB_no (l := l) (by rw [hl]; exact h32))
  clear hr hl h32
  go_enter Tryz.func31, Tryz.ntmps31
  go_wp2_with fail
  refine wp_region_held_drew (S := fun V => Below w.heap.size w V) (by kernel_rfl) HB0.out (fun hHeld => ?_)
  generalize w.drew = W0 at *
  refine' wpAnyH_take (i := 0) (oi := _) (v := _) ?hit1 ?hst1 ?hft1 ?hrt1 ?hQt1 ?hyt1 ?hSt1 ?_
  case hit1 => (simp only [zD, zE, zF]; rfl)
  case hst1 | hft1 | hrt1 => kernel_rfl
  case hQt1 => exact fun _ _ _ h => h
  case hSt1 => assumption
  case hyt1 =>
   refine Or.inl ⟨by rfl, ?_⟩
   intro w hSw
   (try dsimp only at hSw)
   go_simp
   all_goals (with_reducible rfl)
  (try simp only [Act.put, zA, zB, zC])
  refine' wpAnyH_take (i := 1) (oi := _) (v := _) ?hit2 ?hst2 ?hft2 ?hrt2 ?hQt2 ?hyt2 ?hSt2 ?_
  case hit2 => (simp only [zD, zE, zF]; rfl)
  case hst2 | hft2 | hrt2 => kernel_rfl
  case hQt2 => exact fun _ _ _ h => h
  case hSt2 => assumption
  case hyt2 =>
   refine Or.inl ⟨by rfl, ?_⟩
   intro w hSw
   (try dsimp only at hSw)
   go_simp
   all_goals (with_reducible rfl)
  (try simp only [Act.put, zA, zB, zC])
  refine' wpAnyH_take (i := 2) (oi := _) (v := _) ?hit3 ?hst3 ?hft3 ?hrt3 ?hQt3 ?hyt3 ?hSt3 ?_
  case hit3 => (simp only [zD, zE, zF]; rfl)
  case hst3 | hft3 | hrt3 => kernel_rfl
  case hQt3 => exact fun _ _ _ h => h
  case hSt3 => assumption
  case hyt3 =>
   refine Or.inl ⟨by rfl, ?_⟩
   intro w hSw
   (try dsimp only at hSw)
   go_simp
   all_goals (with_reducible rfl)
  (try simp only [Act.put, zA, zB, zC])
  refine' wpAnyH_take (i := 3) (oi := _) (v := _) ?hit4 ?hst4 ?hft4 ?hrt4 ?hQt4 ?hyt4 ?hSt4 ?_
  case hit4 => (simp only [zD, zE, zF]; rfl)
  case hst4 | hft4 | hrt4 => kernel_rfl
  case hQt4 => exact fun _ _ _ h => h
  case hSt4 => assumption
  case hyt4 =>
   refine Or.inl ⟨by rfl, ?_⟩
   intro w hSw
   (try dsimp only at hSw)
   go_simp
   all_goals (with_reducible rfl)
  (try simp only [Act.put, zA, zB, zC])
  refine' wpAnyH_take (i := 4) (oi := _) (v := undef) ?hit5 ?hst5 ?hft5 ?hrt5 ?hQt5 ?hyt5 ?hSt5 ?_
  case hit5 => (simp only [zD, zE, zF]; rfl)
  case hst5 | hft5 | hrt5 => kernel_rfl
  case hQt5 => exact fun _ _ _ h => h
  case hSt5 => assumption
  case hyt5 =>
   exact Or.inr ⟨by rfl, rfl⟩
  (try simp only [Act.put, zA, zB, zC])
  refine' wpAnyH_take (i := 5) (oi := _) (v := undef) ?hit6 ?hst6 ?hft6 ?hrt6 ?hQt6 ?hyt6 ?hSt6 ?_
  case hit6 => (simp only [zD, zE, zF]; rfl)
  case hst6 | hft6 | hrt6 => kernel_rfl
  case hQt6 => exact fun _ _ _ h => h
  case hSt6 => assumption
  case hyt6 =>
   exact Or.inr ⟨by rfl, rfl⟩
  (try simp only [Act.put, zA, zB, zC])
  refine' wpAnyH_take (i := 6) (oi := _) (v := undef) ?hit7 ?hst7 ?hft7 ?hrt7 ?hQt7 ?hyt7 ?hSt7 ?_
  case hit7 => (simp only [zD, zE, zF]; rfl)
  case hst7 | hft7 | hrt7 => kernel_rfl
  case hQt7 => exact fun _ _ _ h => h
  case hSt7 => assumption
  case hyt7 =>
   exact Or.inr ⟨by rfl, rfl⟩
  (try simp only [Act.put, zA, zB, zC])
  refine' wpAnyH_take (i := 7) (oi := _) (v := undef) ?hit8 ?hst8 ?hft8 ?hrt8 ?hQt8 ?hyt8 ?hSt8 ?_
  case hit8 => (simp only [zD, zE, zF]; rfl)
  case hst8 | hft8 | hrt8 => kernel_rfl
  case hQt8 => exact fun _ _ _ h => h
  case hSt8 => assumption
  case hyt8 =>
   exact Or.inr ⟨by rfl, rfl⟩
  (try simp only [Act.put, zA, zB, zC])
  refine' wpAnyH_take (i := 8) (oi := _) (v := undef) ?hit9 ?hst9 ?hft9 ?hrt9 ?hQt9 ?hyt9 ?hSt9 ?_
  case hit9 => (simp only [zD, zE, zF]; rfl)
  case hst9 | hft9 | hrt9 => kernel_rfl
  case hQt9 => exact fun _ _ _ h => h
  case hSt9 => assumption
  case hyt9 =>
   exact Or.inr ⟨by rfl, rfl⟩
  (try simp only [Act.put, zA, zB, zC])
  refine' wpAnyH_take (i := 9) (oi := _) (v := undef) ?hit10 ?hst10 ?hft10 ?hrt10 ?hQt10 ?hyt10 ?hSt10 ?_
  case hit10 => (simp only [zD, zE, zF]; rfl)
  case hst10 | hft10 | hrt10 => kernel_rfl
  case hQt10 => exact fun _ _ _ h => h
  case hSt10 => assumption
  case hyt10 =>
   exact Or.inr ⟨by rfl, rfl⟩
  (try simp only [Act.put, zA, zB, zC])
  refine' wpAnyH_take (i := 10) (oi := _) (v := _) ?hit11 ?hst11 ?hft11 ?hrt11 ?hQt11 ?hyt11 ?hSt11 ?_
  case hit11 => (simp only [zD, zE, zF]; rfl)
  case hst11 | hft11 | hrt11 => kernel_rfl
  case hQt11 => exact fun _ _ _ h => h
  case hSt11 => assumption
  case hyt11 =>
   refine Or.inl ⟨by rfl, ?_⟩
   intro w hSw
   (try dsimp only at hSw)
   go_simp
   all_goals (with_reducible rfl)
  (try simp only [Act.put, zA, zB, zC])
  refine' wpAnyH_take (i := 11) (oi := _) (v := _) ?hit12 ?hst12 ?hft12 ?hrt12 ?hQt12 ?hyt12 ?hSt12 ?_
  case hit12 => (simp only [zD, zE, zF]; rfl)
  case hst12 | hft12 | hrt12 => kernel_rfl
  case hQt12 => exact fun _ _ _ h => h
  case hSt12 => assumption
  case hyt12 =>
   refine Or.inl ⟨by rfl, ?_⟩
   intro w hSw
   (try dsimp only at hSw)
   go_simp
   all_goals (with_reducible rfl)
  (try simp only [Act.put, zA, zB, zC])
  refine wpAnyH_done (by kernel_rfl) ?_ _
  clear hHeld
  go_wp2_with fail
  go_ret
  exact ⟨by rw [HM.out]; rfl, HB0.out⟩
end Go.Proofs.YtcfogpeinjehbaaGreatDoor
end

section
namespace F5
def Prime (p : Nat) : Prop := 2 ≤ p ∧ ∀ m, m ∣ p → m = 1 ∨ m = p
theorem Prime.coprime {p : Nat} (hp : Prime p) {a : Nat} (h : ¬ p ∣ a) : Nat.Coprime p a := by
 rcases hp.2 (Nat.gcd p a) (Nat.gcd_dvd_left p a) with h1 | h1
 ·exact h1
 ·exact absurd (h1 ▸ Nat.gcd_dvd_right p a) h
theorem Prime.dvd_mul {p : Nat} (hp : Prime p) {a b : Nat} (h : p ∣ a * b) : p ∣ a ∨ p ∣ b := by
 by_cases ha : p ∣ a
 ·exact .inl ha
 ·exact .inr ((hp.coprime ha).dvd_of_dvd_mul_left h)
theorem mod_eq_sub {a b p : Nat} (h : a ≤ b) : a % p = b % p ↔ p ∣ b - a := by
 constructor
 ·intro e
  have h1 := Nat.div_add_mod a p
  have h2 := Nat.div_add_mod b p
  have : b - a = p * (b / p) - p * (a / p) := by omega
  rw [this, ← Nat.mul_sub]
  exact Nat.dvd_mul_right _ _
 ·rintro ⟨k, hk⟩
  have : b = a + p * k := by omega
  rw [this, Nat.add_mul_mod_self_left]
theorem mul_cancel {p a x y : Nat} (hp : Prime p) (ha : ¬ p ∣ a) (h : a * x % p = a * y % p) : x % p = y % p := by
 rcases Nat.le_total x y with hxy | hxy
 ·rw [mod_eq_sub (Nat.mul_le_mul_left a hxy), ← Nat.mul_sub] at h
  rw [mod_eq_sub hxy]
  exact (hp.dvd_mul h).resolve_left ha
 ·have h := h.symm
  rw [mod_eq_sub (Nat.mul_le_mul_left a hxy), ← Nat.mul_sub] at h
  exact ((mod_eq_sub hxy).2 ((hp.dvd_mul h).resolve_left ha)).symm
def prod : List Nat → Nat
 | [] => 1
 | x :: l => x * prod l
theorem prod_perm {l1 l2 : List Nat} (h : l1.Perm l2) : prod l1 = prod l2 := by
 induction h with
 | nil => rfl
 | cons x _ ih => simp [prod, ih]
 | swap x y l => simp [prod, Nat.mul_left_comm]
 | trans _ _ h1 h2 => exact h1.trans h2
theorem prod_map (p a : Nat) (l : List Nat) : prod (l.map fun x => a * x % p) % p = a ^ l.length * prod l % p := by
 induction l with
 | nil => simp [prod]
 | cons x l ih =>
  show (a * x % p) * prod (l.map fun x => a * x % p) % p = a ^ (l.length + 1) * (x * prod l) % p
  rw [Nat.mod_mul_mod, Nat.mul_mod (a * x), ih, ← Nat.mul_mod]
  congr 1
  rw [Nat.pow_succ]
  simp only [Nat.mul_assoc, Nat.mul_left_comm]
theorem perm_of {l1 l2 : List Nat} (h1 : l1.Nodup) (h : ∀ x ∈ l1, x ∈ l2) (hl : l2.length ≤ l1.length) : l1.Perm l2 := by
 induction l1 generalizing l2 with
 | nil => rw [List.eq_nil_of_length_eq_zero (Nat.le_zero.1 hl)]
 | cons x l ih =>
  have hx := h x List.mem_cons_self
  have hp := List.perm_cons_erase hx
  have hn := List.nodup_cons.1 h1
  refine (List.Perm.cons x (ih hn.2 (fun y hy => ?_) ?_)).trans hp.symm
  ·have hne : y ≠ x := fun e => hn.1 (e ▸ hy)
   exact (List.mem_erase_of_ne hne).2 (h y (List.mem_cons_of_mem _ hy))
  ·rw [List.length_erase_of_mem hx]
   simp at hl ⊢
   omega
theorem map_nodup {l : List Nat} (h : l.Nodup) (f : Nat → Nat) (hf : ∀ x ∈ l, ∀ y ∈ l, f x = f y → x = y) : (l.map f).Nodup := by
 induction l with
 | nil => simp
 | cons x l ih =>
  have hn := List.nodup_cons.1 h
  rw [List.map_cons, List.nodup_cons]
  refine ⟨fun hm => ?_, ih hn.2 fun a ha b hb => hf a (List.mem_cons_of_mem _ ha) b (List.mem_cons_of_mem _ hb)⟩
  obtain ⟨y, hy, e⟩ := List.mem_map.1 hm
  exact hn.1 (hf y (List.mem_cons_of_mem _ hy) x List.mem_cons_self e ▸ hy)
theorem prod_coprime {p : Nat} (hp : Prime p) (l : List Nat) (h : ∀ x ∈ l, ¬ p ∣ x) : ¬ p ∣ prod l := by
 induction l with
 | nil =>
  intro h1
  have h1 : p ∣ 1 := h1
  have := Nat.le_of_dvd (by decide) h1
  have := hp.1
  omega
 | cons x l ih =>
  intro h1
  rcases hp.dvd_mul h1 with h2 | h2
  ·exact h x List.mem_cons_self h2
  ·exact ih (fun y hy => h y (List.mem_cons_of_mem _ hy)) h2
theorem fermat {p a : Nat} (hp : Prime p) (ha : ¬ p ∣ a) : a ^ (p - 1) % p = 1 := by
 have hp2 := hp.1
 let l := List.range' 1 (p - 1)
 have hmem : ∀ x ∈ l, 1 ≤ x ∧ x < p := fun x hx => by
  have := List.mem_range'_1.1 hx
  omega
 have hnd : ∀ x ∈ l, ¬ p ∣ x := fun x hx h => by
  have := hmem x hx
  have := Nat.le_of_dvd (by omega) h
  omega
 have hinj : ∀ x ∈ l, ∀ y ∈ l, a * x % p = a * y % p → x = y := fun x hx y hy h => by
  have := mul_cancel hp ha h
  rw [Nat.mod_eq_of_lt (hmem x hx).2, Nat.mod_eq_of_lt (hmem y hy).2] at this
  exact this
 have hperm : (l.map fun x => a * x % p).Perm l := by
  refine perm_of (map_nodup (List.nodup_range' (s := 1) (n := p - 1)) _ hinj) (fun y hy => ?_) (by simp [l])
  obtain ⟨x, hx, rfl⟩ := List.mem_map.1 hy
  refine List.mem_range'_1.2 ⟨?_, ?_⟩
  ·rcases Nat.eq_zero_or_pos (a * x % p) with h0 | h0
   ·rcases hp.dvd_mul (Nat.dvd_of_mod_eq_zero h0) with h1 | h1
    ·exact absurd h1 ha
    ·exact absurd h1 (hnd x hx)
   ·exact h0
  ·have := Nat.mod_lt (a * x) (show p > 0 by omega)
   omega
 have e := prod_map p a l
 rw [prod_perm hperm] at e
 have hl : l.length = p - 1 := by simp [l]
 rw [hl] at e
 have e2 : prod l * 1 % p = prod l * a ^ (p - 1) % p := by rw [Nat.mul_one, e, Nat.mul_comm]
 have := mul_cancel hp (prod_coprime hp l hnd) e2
 rw [Nat.mod_eq_of_lt (show 1 < p by omega)] at this
 exact this.symm
theorem pow_mod' (a n p : Nat) : (a % p) ^ n % p = a ^ n % p := (Nat.pow_mod a n p).symm
theorem pow_gcd {r a : Nat} (hr : Prime r) (ha : ¬ r ∣ a) (x y : Nat) (hx : a ^ x % r = 1) (hy : a ^ y % r = 1) : a ^ Nat.gcd x y % r = 1 := by
 have h1 : 1 % r = 1 := Nat.mod_eq_of_lt hr.1
 induction x, y using Nat.gcd.induction with
 | H0 n => simpa using hy
 | H1 m n hm ih =>
  rw [Nat.gcd_rec]
  refine ih ?_ hx
  have e : a ^ n = (a ^ m) ^ (n / m) * a ^ (n % m) := by
   rw [← Nat.pow_mul, ← Nat.pow_add, Nat.div_add_mod]
  rw [e, Nat.mul_mod, Nat.pow_mod, hx, Nat.one_pow, h1, Nat.one_mul, Nat.mod_mod] at hy
  exact hy
/-- a to the power of n, modulo p: by squaring. -/
def powMod (p : Nat) : Nat → Nat → Nat → Nat → Nat
 | 0, _, _, acc => acc
 | f + 1, a, n, acc => powMod p f (a * a % p) (n / 2) (if n % 2 = 1 then acc * a % p else acc)
theorem powMod_eq (p : Nat) (f a n acc : Nat) (hn : n < 2 ^ f) (h : acc < p) : powMod p f a n acc = acc * a ^ n % p := by
 induction f generalizing a n acc with
 | zero =>
  have : n = 0 := by simpa using hn
  subst this
  simp [powMod, Nat.mod_eq_of_lt h]
 | succ f ih =>
  have hp : 0 < p := by omega
  have e : a ^ n = (a * a) ^ (n / 2) * a ^ (n % 2) := by
   rw [← Nat.pow_two, ← Nat.pow_mul, ← Nat.pow_add, Nat.div_add_mod]
  rw [powMod, ih _ _ _ (by rw [Nat.pow_succ] at hn; omega) (by split; exact Nat.mod_lt _ hp; exact h)]
  rw [Nat.mul_mod, Nat.pow_mod (a * a % p), Nat.mod_mod, ← Nat.pow_mod, ← Nat.mul_mod]
  split
  ·rename_i h1
   rw [h1] at e
   rw [Nat.mod_mul_mod, e, Nat.pow_one, Nat.mul_assoc, Nat.mul_comm a]
  ·rename_i h1
   have h0 : n % 2 = 0 := by omega
   rw [h0, Nat.pow_zero, Nat.mul_one] at e
   rw [e]
/-- A number without a divisor up to its root is prime. -/
theorem prime_of_small {n : Nat} (h2 : 2 ≤ n) (h : ∀ r, Prime r → r ∣ n → n < r * r) : Prime n := by
 refine ⟨h2, fun m hm => ?_⟩
 obtain ⟨k, hk⟩ := hm
 by_cases h1 : m = 1
 ·exact .inl h1
 by_cases hk1 : k = 1
 ·exact .inr (by rw [hk, hk1, Nat.mul_one])
 exfalso
 have hex : ∀ d, 2 ≤ d → ∃ r, Prime r ∧ r ∣ d := by
  intro d
  induction d using Nat.strongRecOn with
  | _ d ih =>
   intro hd
   by_cases hc : ∃ m, m ∣ d ∧ m ≠ 1 ∧ m ≠ d
   ·obtain ⟨m, hm, h1, h2⟩ := hc
    have hle := Nat.le_of_dvd (by omega) hm
    have h0 : m ≠ 0 := by rintro rfl; have := Nat.zero_dvd.1 hm; omega
    obtain ⟨r, hr, hrm⟩ := ih m (by omega) (by omega)
    exact ⟨r, hr, Nat.dvd_trans hrm hm⟩
   ·refine ⟨d, ⟨hd, fun m hm => ?_⟩, Nat.dvd_refl d⟩
    by_cases h1 : m = 1
    ·exact .inl h1
    ·exact .inr (Classical.byContradiction fun h2 => hc ⟨m, hm, h1, h2⟩)
 have hm0 : m ≠ 0 := by rintro rfl; rw [Nat.zero_mul] at hk; omega
 have hk0 : k ≠ 0 := by rintro rfl; rw [Nat.mul_zero] at hk; omega
 rcases Nat.le_total m k with hmk | hmk
 ·obtain ⟨r, hr, hrm⟩ := hex m (by omega)
  have h3 := h r hr (Nat.dvd_trans hrm ⟨k, hk⟩)
  have h4 := Nat.le_of_dvd (by omega) hrm
  have h5 : r * r ≤ m * k := Nat.mul_le_mul h4 (Nat.le_trans h4 hmk)
  omega
 ·obtain ⟨r, hr, hrm⟩ := hex k (by omega)
  have h3 := h r hr (Nat.dvd_trans hrm ⟨m, by rw [hk, Nat.mul_comm]⟩)
  have h4 := Nat.le_of_dvd (by omega) hrm
  have h5 : r * r ≤ m * k := Nat.mul_le_mul (Nat.le_trans h4 hmk) h4
  omega
/-- Trial division. -/
theorem prime_of_trial {n b : Nat} (h2 : 2 ≤ n) (hb : n < (b + 2) * (b + 2)) (h : (List.range b).all (fun i => decide (n % (i + 2) ≠ 0)) = true) : Prime n := by
 refine prime_of_small h2 fun r hr hrn => ?_
 apply Classical.byContradiction
 intro hc
 have hr2 := hr.1
 have hrb : r < b + 2 := by
  apply Classical.byContradiction
  intro hge
  have : (b + 2) * (b + 2) ≤ r * r := Nat.mul_le_mul (by omega) (by omega)
  omega
 rw [List.all_eq_true] at h
 have := h (r - 2) (List.mem_range.2 (by omega))
 rw [show r - 2 + 2 = r by omega] at this
 exact (of_decide_eq_true this) (Nat.mod_eq_zero_of_dvd hrn)
/-- What a prime q of n - 1 tells of n's divisors. -/
theorem pock {n q a m r : Nat} (hq : Prime q) (hn : n - 1 = q * m) (hr : Prime r) (hrn : r ∣ n) (h1 : a ^ (n - 1) % n = 1) (hg : Nat.gcd (a ^ m % n + (n - 1)) n = 1) (hn2 : 2 ≤ n) : q ∣ r - 1 := by
 apply Classical.byContradiction
 intro hc
 have hr2 := hr.1
 have e1 : a ^ (n - 1) % r = 1 := by
  have := congrArg (· % r) h1
  simp only [Nat.mod_mod_of_dvd _ hrn, Nat.mod_eq_of_lt (show 1 < r by omega)] at this
  exact this
 have ha : ¬ r ∣ a := by
  intro hra
  have h0 : n - 1 ≠ 0 := by omega
  have : r ∣ a ^ (n - 1) := by
   obtain ⟨k, hk⟩ : ∃ k, n - 1 = k + 1 := ⟨n - 2, by omega⟩
   rw [hk, Nat.pow_succ]
   exact Nat.dvd_trans hra (Nat.dvd_mul_left _ _)
  rw [Nat.mod_eq_zero_of_dvd this] at e1
  omega
 have e2 := pow_gcd hr ha (n - 1) (r - 1) e1 (fermat hr ha)
 have hco := hq.coprime hc
 have hd : Nat.gcd (n - 1) (r - 1) ∣ m := by
  have h3 : Nat.gcd (n - 1) (r - 1) ∣ q * m := hn ▸ Nat.gcd_dvd_left _ _
  have h4 : Nat.Coprime (Nat.gcd (n - 1) (r - 1)) q := (Nat.Coprime.coprime_dvd_right (Nat.gcd_dvd_right (n - 1) (r - 1)) hco).symm
  exact h4.dvd_of_dvd_mul_left h3
 have e3 : a ^ m % r = 1 := by
  obtain ⟨k, hk⟩ := hd
  rw [hk, Nat.pow_mul, Nat.pow_mod, e2, Nat.one_pow, Nat.mod_eq_of_lt (by omega)]
 have e4 : r ∣ a ^ m % n + (n - 1) := by
  have h5 : (a ^ m % n) % r = 1 := by rw [Nat.mod_mod_of_dvd _ hrn, e3]
  have h6 := Nat.div_add_mod (a ^ m % n) r
  rw [h5] at h6
  rw [show a ^ m % n + (n - 1) = r * (a ^ m % n / r) + n by omega]
  exact Nat.dvd_add (Nat.dvd_mul_right _ _) hrn
 have : r ∣ Nat.gcd (a ^ m % n + (n - 1)) n := Nat.dvd_gcd e4 hrn
 rw [hg] at this
 have := Nat.le_of_dvd (by decide) this
 omega
theorem pock1 {n q a m f : Nat} (hq : Prime q) (hn : n - 1 = q * m) (hn2 : 2 ≤ n) (hf : n < 2 ^ f) (hb : n < (q + 1) * (q + 1))
  (h1 : powMod n f a (n - 1) 1 = 1) (hg : Nat.gcd (powMod n f a m 1 + (n - 1)) n = 1) : Prime n := by
 have hm : m ≤ n - 1 := by
  rw [hn]; exact Nat.le_mul_of_pos_left _ (by have := hq.1; omega)
 rw [powMod_eq n f a (n - 1) 1 (by omega) (by omega), Nat.one_mul] at h1
 rw [powMod_eq n f a m 1 (by omega) (by omega), Nat.one_mul] at hg
 refine prime_of_small hn2 fun r hr hrn => ?_
 have hd := pock hq hn hr hrn h1 hg hn2
 have hle := Nat.le_of_dvd (by have := hr.1; omega) hd
 have hr2 := hr.1
 have hqr : q + 1 ≤ r := by omega
 have : (q + 1) * (q + 1) ≤ r * r := Nat.mul_le_mul hqr hqr
 omega
theorem pock2 {n q s a b m k f : Nat} (hq : Prime q) (hs : Prime s) (hqs : q ≠ s) (hn : n - 1 = q * m) (hk : n - 1 = s * k) (hn2 : 2 ≤ n) (hf : n < 2 ^ f) (hb : n < (q * s + 1) * (q * s + 1))
  (h1 : powMod n f a (n - 1) 1 = 1) (hg : Nat.gcd (powMod n f a m 1 + (n - 1)) n = 1) (h2 : powMod n f b (n - 1) 1 = 1) (hh : Nat.gcd (powMod n f b k 1 + (n - 1)) n = 1) : Prime n := by
 have hm : m ≤ n - 1 := by
  rw [hn]; exact Nat.le_mul_of_pos_left _ (by have := hq.1; omega)
 have hk' : k ≤ n - 1 := by
  rw [hk]; exact Nat.le_mul_of_pos_left _ (by have := hs.1; omega)
 rw [powMod_eq n f a (n - 1) 1 (by omega) (by omega), Nat.one_mul] at h1
 rw [powMod_eq n f b (n - 1) 1 (by omega) (by omega), Nat.one_mul] at h2
 rw [powMod_eq n f a m 1 (by omega) (by omega), Nat.one_mul] at hg
 rw [powMod_eq n f b k 1 (by omega) (by omega), Nat.one_mul] at hh
 refine prime_of_small hn2 fun r hr hrn => ?_
 have hd1 := pock hq hn hr hrn h1 hg hn2
 have hd2 := pock hs hk hr hrn h2 hh hn2
 have hco : Nat.Coprime q s := hq.coprime fun h => by
  rcases hs.2 q h with h | h
  ·have := hq.1; omega
  ·exact hqs h
 have hd := hco.mul_dvd_of_dvd_of_dvd hd1 hd2
 have hle := Nat.le_of_dvd (by have := hr.1; omega) hd
 have hr2 := hr.1
 have hqr : q * s + 1 ≤ r := by omega
 have : (q * s + 1) * (q * s + 1) ≤ r * r := Nat.mul_le_mul hqr hqr
 omega
set_option maxRecDepth 100000 in
theorem prime_4 : Prime 1919519569386763 :=
 pock2 (q := 8574133) (s := 47) (a := 2) (b := 2) (m := 1919519569386762 / 8574133) (k := 1919519569386762 / 47) (f := 51)
  (prime_of_trial (b := 2928) (by decide) (by decide) (by decide +kernel)) (prime_of_trial (b := 6) (by decide) (by decide) (by decide +kernel)) (by decide)
  (by decide +kernel) (by decide +kernel) (by decide) (by decide +kernel) (by decide +kernel) (by decide +kernel) (by decide +kernel) (by decide +kernel) (by decide +kernel)
theorem prime_3 : Prime 31757755568855353 :=
 pock2 (q := 430751) (s := 4153) (a := 2) (b := 2) (m := 31757755568855352 / 430751) (k := 31757755568855352 / 4153) (f := 55)
  (prime_of_trial (b := 656) (by decide) (by decide) (by decide +kernel)) (prime_of_trial (b := 64) (by decide) (by decide) (by decide +kernel)) (by decide)
  (by decide +kernel) (by decide +kernel) (by decide) (by decide +kernel) (by decide +kernel) (by decide +kernel) (by decide +kernel) (by decide +kernel) (by decide +kernel)
theorem prime_2 : Prime 75445702479781427272750846543864801 :=
 pock2 (q := 1919519569386763) (s := 75707) (a := 2) (b := 2) (m := 75445702479781427272750846543864800 / 1919519569386763) (k := 75445702479781427272750846543864800 / 75707) (f := 116)
  prime_4 (prime_of_trial (b := 275) (by decide) (by decide) (by decide +kernel)) (by decide)
  (by decide +kernel) (by decide +kernel) (by decide) (by decide +kernel) (by decide +kernel) (by decide +kernel) (by decide +kernel) (by decide +kernel) (by decide +kernel)
theorem prime_1 : Prime 74058212732561358302231226437062788676166966415465897661863160754340907 :=
 pock2 (q := 75445702479781427272750846543864801) (s := 31757755568855353) (a := 2) (b := 2) (m := 74058212732561358302231226437062788676166966415465897661863160754340906 / 75445702479781427272750846543864801) (k := 74058212732561358302231226437062788676166966415465897661863160754340906 / 31757755568855353) (f := 236)
  prime_2 prime_3 (by decide)
  (by decide +kernel) (by decide +kernel) (by decide) (by decide +kernel) (by decide +kernel) (by decide +kernel) (by decide +kernel) (by decide +kernel) (by decide +kernel)
theorem prime_P : Prime P :=
 pock1 (q := 74058212732561358302231226437062788676166966415465897661863160754340907) (a := 2) (m := (P - 1) / 74058212732561358302231226437062788676166966415465897661863160754340907) (f := 255)
  prime_1 (by decide +kernel) (by decide) (by decide +kernel) (by decide +kernel) (by decide +kernel) (by decide +kernel)
end F5
end

section
namespace F5
theorem P_pos : 0 < P := by decide
/-- a number to a power, modulo P. -/
def pw (n e : Nat) : Nat := n ^ e % P
theorem pw_lt (n e : Nat) : pw n e < P := Nat.mod_lt _ P_pos
theorem pw_one {n : Nat} (h : n < P) : pw n 1 = n := by rw [pw, Nat.pow_one, Nat.mod_eq_of_lt h]
theorem pw_zero (n : Nat) : pw n 0 = 1 := by rw [pw, Nat.pow_zero]; exact Nat.mod_eq_of_lt (by decide)
theorem pw_add (n a b : Nat) : pw n a * pw n b % P = pw n (a + b) := by rw [pw, pw, pw, ← Nat.mul_mod, ← Nat.pow_add]
theorem pw_next {n : Nat} (h : n < P) (a : Nat) : pw n a * n % P = pw n (a + 1) := by
 have e := pw_add n a 1
 rwa [pw_one h] at e
theorem pw_pw (n a b : Nat) : pw (pw n a) b = pw n (a * b) := by rw [pw, pw, pw, pow_mod', Nat.pow_mul]
theorem sub_self {n : Nat} (h : n < P) : (n + P - n) % P = 0 := by rw [Nat.add_sub_cancel_left, Nat.mod_self]
theorem nd_of_pos {n : Nat} (h0 : n ≠ 0) (h : n < P) : ¬ P ∣ n := fun hd => by
 have := Nat.le_of_dvd (by omega) hd
 omega
/-- a number times its inverse. -/
theorem inv_mul {n : Nat} (h0 : n ≠ 0) (h : n < P) : n * pw n (P - 2) % P = 1 := by
 rw [Nat.mul_comm, pw_next h, show P - 2 + 1 = P - 1 from rfl, pw]
 exact fermat prime_P (nd_of_pos h0 h)
/-- turn times itself is p - 1. -/
def I4 : Nat := 19681161376707505956807079304988542015446066515923890162744021073123829784752
theorem I4_lt : I4 < P := by decide
theorem I4_sq : I4 * I4 % P = P - 1 := by decide
theorem I4_pow : pw 2 ((P - 1) / 4) = I4 := by
 have h := powMod_eq P 255 2 ((P - 1) / 4) 1 (by decide) (by decide)
 rw [Nat.one_mul] at h
 rw [pw, ← h]
 decide +kernel
/-- E is (p + 3) / 8. -/
def E8 : Nat := 2 ^ 252 - 2
theorem E8_twice : E8 + E8 = (P - 1) / 4 + 1 := by decide +kernel
def root1 (n : Nat) : Nat := if pw n E8 * pw n E8 % P = n then pw n E8 else pw n E8 * I4 % P
theorem root1_lt (n : Nat) : root1 n < P := by
 unfold root1
 split
 ·exact pw_lt _ _
 ·exact Nat.mod_lt _ P_pos
def hasRoot (n : Nat) : Prop := root1 n * root1 n % P = n
instance (n : Nat) : Decidable (hasRoot n) := inferInstanceAs (Decidable (_ = _))
/-- the even one of the two roots; 0, if there is none. -/
def root (n : Nat) : Nat := if hasRoot n then (if root1 n % 2 = 1 then P - root1 n else root1 n) else 0
theorem root_lt (n : Nat) : root n < P := by
 have h := root1_lt n
 unfold root
 split
 ·split
  ·have : root1 n ≠ 0 := by intro e; rename_i hodd; rw [e] at hodd; omega
   have := P_pos
   omega
  ·exact h
 ·exact P_pos
theorem root_even (n : Nat) : root n % 2 = 0 := by
 have h := root1_lt n
 unfold root
 split
 ·split
  ·unfold P at *; omega
  ·omega
 ·rfl
theorem neg_sq {a : Nat} (h : a ≤ P) : (P - a) * (P - a) % P = a * a % P := by
 have h2 : a * a ≤ P * a := Nat.mul_le_mul_right a h
 have e : (P - a) * (P - a) + P * (2 * a) = a * a + P * P := by
  have e1 : P = (P - a) + a := by omega
  generalize P - a = z at e1
  rw [e1]
  simp only [Nat.mul_add, Nat.add_mul, Nat.two_mul, Nat.mul_comm a z]
  omega
 have := congrArg (· % P) e
 simp only [Nat.add_mul_mod_self_left] at this
 exact this
theorem root_sq {n : Nat} (h : hasRoot n) : root n * root n % P = n := by
 unfold root
 rw [if_pos h]
 split
 ·rw [neg_sq (Nat.le_of_lt (root1_lt n))]; exact h
 ·exact h
/-- two numbers with one square are the same, or each other's other side. -/
theorem sq_inj {a b : Nat} (ha : a < P) (hb : b < P) (h : a * a % P = b * b % P) : a = b ∨ (a + b) % P = 0 := by
 have key : ∀ a b, a ≤ b → b < P → a * a % P = b * b % P → a = b ∨ (a + b) % P = 0 := by
  intro a b hab hb h
  rw [mod_eq_sub (Nat.mul_le_mul hab hab)] at h
  have e : b * b - a * a = (b - a) * (a + b) := by
   have e1 : b = (b - a) + a := by omega
   generalize b - a = z at e1
   subst e1
   have : (z + a) * (z + a) = z * (a + (z + a)) + a * a := by
    simp only [Nat.mul_add, Nat.add_mul, Nat.mul_comm a z]; omega
   omega
  rw [e] at h
  rcases prime_P.dvd_mul h with h1 | h1
  ·left
   apply Classical.byContradiction
   intro hne
   have := Nat.le_of_dvd (by omega) h1
   omega
  ·right; exact Nat.mod_eq_zero_of_dvd h1
 rcases Nat.le_total a b with hab | hab
 ·exact key a b hab hb h
 ·rcases key b a hab ha h.symm with h1 | h1
  ·exact .inl h1.symm
  ·right; rw [Nat.add_comm]; exact h1
theorem pw_of_zero (e : Nat) (h : e ≠ 0) : pw 0 e = 0 := by
 cases e with
 | zero => exact absurd rfl h
 | succ k => unfold pw; rw [Nat.pow_succ, Nat.mul_zero, Nat.zero_mod]
theorem root1_zero : root1 0 = 0 := by
 have h := pw_of_zero E8 (by decide)
 unfold root1
 rw [h]
 simp
theorem root_of_sq {x : Nat} (hx : x < P) : hasRoot (x * x % P) ∧ (root (x * x % P) = x ∨ (root (x * x % P) + x) % P = 0) := by
 have hs : x * x % P < P := Nat.mod_lt _ P_pos
 have hs2 : x * x % P = pw x 2 := by rw [pw, Nat.pow_two]
 have hh : hasRoot (x * x % P) := by
  by_cases h0 : x = 0
  ·subst h0
   rw [show 0 * 0 % P = 0 from Nat.zero_mod P]
   unfold hasRoot
   rw [root1_zero, Nat.zero_mul, Nat.zero_mod]
  ·-- r is s to the power of E8; its square is s times x to the power of (p - 1) / 2
   have hr : pw (x * x % P) E8 * pw (x * x % P) E8 % P = (x * x % P) * pw x ((P - 1) / 2) % P := by
    rw [pw_add, E8_twice, ← pw_next hs, hs2, pw_pw, Nat.mul_comm, show 2 * ((P - 1) / 4) = (P - 1) / 2 by decide +kernel]
   have hq : pw x ((P - 1) / 2) * pw x ((P - 1) / 2) % P = 1 * 1 % P := by
    rw [pw_add, show (P - 1) / 2 + (P - 1) / 2 = P - 1 by decide +kernel, pw, fermat prime_P (nd_of_pos h0 hx)]
    decide
   rcases sq_inj (pw_lt _ _) (show 1 < P by decide) hq with h1 | h1
   ·rw [h1, Nat.mul_one, Nat.mod_mod] at hr
    unfold hasRoot root1
    rw [if_pos hr, hr]
   ·have h2 : pw x ((P - 1) / 2) = P - 1 := by
     have := pw_lt x ((P - 1) / 2)
     generalize pw x ((P - 1) / 2) = z at *
     have hz : z + 1 = P := by
      apply Classical.byContradiction
      intro hne
      rw [Nat.mod_eq_of_lt (by omega)] at h1
      omega
     omega
    by_cases h3 : pw (x * x % P) E8 * pw (x * x % P) E8 % P = x * x % P
    ·unfold hasRoot root1
     rw [if_pos h3, h3]
    ·unfold hasRoot root1
     rw [if_neg h3]
     rw [h2] at hr
     generalize pw (x * x % P) E8 = r at *
     generalize x * x % P = s at *
     rw [← Nat.mul_mod, show r * I4 * (r * I4) = (r * r) * (I4 * I4) by simp only [Nat.mul_assoc, Nat.mul_left_comm], Nat.mul_mod, hr, I4_sq]
     have : (s * (P - 1) % P) * (P - 1) % P = s * ((P - 1) * (P - 1)) % P := by rw [Nat.mod_mul_mod, Nat.mul_assoc]
     rw [this, Nat.mul_mod, show (P - 1) * (P - 1) % P = 1 by decide, Nat.mul_one, Nat.mod_mod, Nat.mod_eq_of_lt hs]
 refine ⟨hh, sq_inj (root_lt _) hx (root_sq hh)⟩
end F5
end

section
namespace F5
/-! Identities that hold modulo any number. -/
section
variable {n : Nat} [NeZero n]
theorem g_one {a : Fin n} (h : 1 * a = 1) : a = 1 := by grind
theorem g_cancel {a b c f : Fin n} (k : c * f = 1) (h : a * c = b * c) : a = b := by grind
theorem g_def {a d b f : Fin n} (k : a * f = 1) (h : a * d = b) : d = b * f := by grind
theorem g_sq1 {a b d f : Fin n} (h : a * a = d * (b * b)) (k : b * f = 1) : (a * f) * (a * f) = d := by grind
theorem g_sq2 {a d : Fin n} (h : a * a = d * (0 * 0)) : a * a = 0 := by grind
theorem g_compA {x1 y1 x2 y2 e i d : Fin n} (h1 : y1 * y1 - x1 * x1 = 1 + d * (x1 * x1) * (y1 * y1)) (h2 : y2 * y2 - x2 * x2 = 1 + d * (x2 * x2) * (y2 * y2)) (he : e * e = 1) (h : d * (x1 * x2 * y1 * y2) = e) (hi : i * i = 0 - 1) :
  (i * x1 + e * y1) * (i * x1 + e * y1) = d * ((x1 * y1 * (i * x2 + y2)) * (x1 * y1 * (i * x2 + y2))) := by grind
theorem g_compB {x1 y1 x2 y2 e i d : Fin n} (h1 : y1 * y1 - x1 * x1 = 1 + d * (x1 * x1) * (y1 * y1)) (h2 : y2 * y2 - x2 * x2 = 1 + d * (x2 * x2) * (y2 * y2)) (he : e * e = 1) (h : d * (x1 * x2 * y1 * y2) = e) (hi : i * i = 0 - 1) :
  (i * x1 - e * y1) * (i * x1 - e * y1) = d * ((x1 * y1 * (i * x2 - y2)) * (x1 * y1 * (i * x2 - y2))) := by grind
theorem g_e0 {e : Fin n} (he : e * e = 1) (h : e = 0) : (1 : Fin n) = 0 := by grind
theorem g_xy0 {x1 y1 x2 y2 e d : Fin n} (h : d * (x1 * x2 * y1 * y2) = e) (h0 : x1 * y1 = 0) : e = 0 := by grind
theorem g_y0 {x1 y1 x2 y2 e d : Fin n} (h : d * (x1 * x2 * y1 * y2) = e) (h0 : y2 = 0) : e = 0 := by grind
theorem g_two {x y i : Fin n} (h : i * x + y = 0) (k : i * x - y = 0) : 2 * y = 0 := by grind
theorem g_m1 : (0 - 1 : Fin n) * (0 - 1) = 1 := by grind
theorem g_p1 : (1 : Fin n) * 1 = 1 := by grind
theorem g_den1 {t : Fin n} (h : 1 + t = 0) : t = 0 - 1 := by grind
theorem g_den2 {t : Fin n} (h : 1 - t = 0) : t = 1 := by grind
theorem g_clo0 (x1 y1 x2 y2 d : Fin n) (e1 : y1 * y1 - x1 * x1 = 1 + d * (x1 * x1) * (y1 * y1)) (e2 : y2 * y2 - x2 * x2 = 1 + d * (x2 * x2) * (y2 * y2)) :
  ((y1 * y2 + x1 * x2) * (1 + d * (x1 * x2 * y1 * y2))) * ((y1 * y2 + x1 * x2) * (1 + d * (x1 * x2 * y1 * y2))) - ((x1 * y2 + x2 * y1) * (1 - d * (x1 * x2 * y1 * y2))) * ((x1 * y2 + x2 * y1) * (1 - d * (x1 * x2 * y1 * y2)))
  = ((1 + d * (x1 * x2 * y1 * y2)) * (1 - d * (x1 * x2 * y1 * y2))) * ((1 + d * (x1 * x2 * y1 * y2)) * (1 - d * (x1 * x2 * y1 * y2))) + d * ((x1 * y2 + x2 * y1) * (x1 * y2 + x2 * y1)) * ((y1 * y2 + x1 * x2) * (y1 * y2 + x1 * x2)) := by grind
theorem g_clo1 {N M D1 D2 u v d : Fin n} (u1 : D1 * u = 1) (v1 : D2 * v = 1) (h : (M * D1) * (M * D1) - (N * D2) * (N * D2) = (D1 * D2) * (D1 * D2) + d * (N * N) * (M * M)) :
  (M * v) * (M * v) - (N * u) * (N * u) = 1 + d * ((N * u) * (N * u)) * ((M * v) * (M * v)) := by grind
theorem g_neg {x y d : Fin n} (h : y * y - x * x = 1 + d * (x * x) * (y * y)) : y * y - (0 - x) * (0 - x) = 1 + d * ((0 - x) * (0 - x)) * (y * y) := by grind
theorem g_nil {d : Fin n} : (1 : Fin n) * 1 - 0 * 0 = 1 + d * (0 * 0) * (1 * 1) := by grind
theorem g_c1 (x1 y1 x2 y2 : Fin n) : x2 * x1 * y2 * y1 = x1 * x2 * y1 * y2 := by grind
theorem g_c2 (x1 y1 x2 y2 : Fin n) : x2 * y1 + x1 * y2 = x1 * y2 + x2 * y1 := by grind
theorem g_c3 (x1 y1 x2 y2 : Fin n) : y2 * y1 + x2 * x1 = y1 * y2 + x1 * x2 := by grind
theorem g_z1 (x y d : Fin n) : 1 + d * (x * 0 * y * 1) = 1 := by grind
theorem g_z2 (x y d : Fin n) : 1 - d * (x * 0 * y * 1) = 1 := by grind
theorem g_z3 (x y : Fin n) : (x * 1 + 0 * y) * 1 = x := by grind
theorem g_z4 (x y : Fin n) : (y * 1 + x * 0) * 1 = y := by grind
theorem g_n1 (x y u : Fin n) : (x * y + (0 - x) * y) * u = 0 := by grind
theorem g_n2 {x y d : Fin n} (h : y * y - x * x = 1 + d * (x * x) * (y * y)) : y * y + x * (0 - x) = 1 - d * (x * (0 - x) * y * y) := by grind
/-- the sums put together in two orders. -/
theorem g_assX (x1 y1 x2 y2 x3 y3 d : Fin n) (e1 : y1 * y1 - x1 * x1 = 1 + d * (x1 * x1) * (y1 * y1)) (e2 : y2 * y2 - x2 * x2 = 1 + d * (x2 * x2) * (y2 * y2)) (e3 : y3 * y3 - x3 * x3 = 1 + d * (x3 * x3) * (y3 * y3)) :
  ((x1 * y2 + x2 * y1) * (1 - d * (x1 * x2 * y1 * y2)) * y3 + x3 * ((y1 * y2 + x1 * x2) * (1 + d * (x1 * x2 * y1 * y2)))) * ((1 + d * (x2 * x3 * y2 * y3)) * (1 - d * (x2 * x3 * y2 * y3)) + d * (x1 * ((x2 * y3 + x3 * y2) * (y1 * (y2 * y3 + x2 * x3)))))
  = (x1 * ((y2 * y3 + x2 * x3) * (1 + d * (x2 * x3 * y2 * y3))) + ((x2 * y3 + x3 * y2) * (1 - d * (x2 * x3 * y2 * y3))) * y1) * ((1 + d * (x1 * x2 * y1 * y2)) * (1 - d * (x1 * x2 * y1 * y2)) + d * ((x1 * y2 + x2 * y1) * (x3 * ((y1 * y2 + x1 * x2) * y3)))) := by grind
theorem g_assY (x1 y1 x2 y2 x3 y3 d : Fin n) (e1 : y1 * y1 - x1 * x1 = 1 + d * (x1 * x1) * (y1 * y1)) (e2 : y2 * y2 - x2 * x2 = 1 + d * (x2 * x2) * (y2 * y2)) (e3 : y3 * y3 - x3 * x3 = 1 + d * (x3 * x3) * (y3 * y3)) :
  ((y1 * y2 + x1 * x2) * (1 + d * (x1 * x2 * y1 * y2)) * y3 + (x1 * y2 + x2 * y1) * (1 - d * (x1 * x2 * y1 * y2)) * x3) * ((1 + d * (x2 * x3 * y2 * y3)) * (1 - d * (x2 * x3 * y2 * y3)) - d * (x1 * ((x2 * y3 + x3 * y2) * (y1 * (y2 * y3 + x2 * x3)))))
  = (y1 * ((y2 * y3 + x2 * x3) * (1 + d * (x2 * x3 * y2 * y3))) + x1 * ((x2 * y3 + x3 * y2) * (1 - d * (x2 * x3 * y2 * y3)))) * ((1 + d * (x1 * x2 * y1 * y2)) * (1 - d * (x1 * x2 * y1 * y2)) - d * ((x1 * y2 + x2 * y1) * (x3 * ((y1 * y2 + x1 * x2) * y3)))) := by grind
/-- from sums of fractions to the fractions of the sums. -/
theorem g_fracL {N M D1 D2 u v x3 y3 w d : Fin n} (u1 : D1 * u = 1) (v1 : D2 * v = 1) (hw : (1 + d * (N * u * x3 * (M * v) * y3)) * w = 1) :
  ((N * u * y3 + x3 * (M * v)) * w) * (D1 * D2 + d * (N * (x3 * (M * y3)))) = N * D2 * y3 + x3 * (M * D1) := by grind
theorem g_fracR {N M D1 D2 u v x1 y1 w d : Fin n} (u1 : D1 * u = 1) (v1 : D2 * v = 1) (hw : (1 + d * (x1 * (N * u) * y1 * (M * v))) * w = 1) :
  ((x1 * (M * v) + N * u * y1) * w) * (D1 * D2 + d * (x1 * (N * (y1 * M)))) = x1 * (M * D1) + N * D2 * y1 := by grind
theorem g_fracLY {N M D1 D2 u v x3 y3 w d : Fin n} (u1 : D1 * u = 1) (v1 : D2 * v = 1) (hw : (1 - d * (N * u * x3 * (M * v) * y3)) * w = 1) :
  ((M * v * y3 + N * u * x3) * w) * (D1 * D2 - d * (N * (x3 * (M * y3)))) = M * D1 * y3 + N * D2 * x3 := by grind
theorem g_fracRY {N M D1 D2 u v x1 y1 w d : Fin n} (u1 : D1 * u = 1) (v1 : D2 * v = 1) (hw : (1 - d * (x1 * (N * u) * y1 * (M * v))) * w = 1) :
  ((y1 * (M * v) + x1 * (N * u)) * w) * (D1 * D2 - d * (x1 * (N * (y1 * M)))) = y1 * (M * D1) + x1 * (N * D2) := by grind
theorem g_denL {N M D1 D2 u v x3 y3 w d : Fin n} (u1 : D1 * u = 1) (v1 : D2 * v = 1) (hw : (1 + d * (N * u * x3 * (M * v) * y3)) * w = 1) (h0 : D1 * D2 + d * (N * (x3 * (M * y3))) = 0) : (1 : Fin n) = 0 := by
 have h : (D1 * D2 + d * (N * (x3 * (M * y3)))) * (u * v) = 1 + d * (N * u * x3 * (M * v) * y3) := by grind
 rw [h0] at h
 grind
theorem g_denR {N M D1 D2 u v x1 y1 w d : Fin n} (u1 : D1 * u = 1) (v1 : D2 * v = 1) (hw : (1 + d * (x1 * (N * u) * y1 * (M * v))) * w = 1) (h0 : D1 * D2 + d * (x1 * (N * (y1 * M))) = 0) : (1 : Fin n) = 0 := by
 have h : (D1 * D2 + d * (x1 * (N * (y1 * M)))) * (u * v) = 1 + d * (x1 * (N * u) * y1 * (M * v)) := by grind
 rw [h0] at h
 grind
theorem g_denLY {N M D1 D2 u v x3 y3 w d : Fin n} (u1 : D1 * u = 1) (v1 : D2 * v = 1) (hw : (1 - d * (N * u * x3 * (M * v) * y3)) * w = 1) (h0 : D1 * D2 - d * (N * (x3 * (M * y3))) = 0) : (1 : Fin n) = 0 := by
 have h : (D1 * D2 - d * (N * (x3 * (M * y3)))) * (u * v) = 1 - d * (N * u * x3 * (M * v) * y3) := by grind
 rw [h0] at h
 grind
theorem g_denRY {N M D1 D2 u v x1 y1 w d : Fin n} (u1 : D1 * u = 1) (v1 : D2 * v = 1) (hw : (1 - d * (x1 * (N * u) * y1 * (M * v))) * w = 1) (h0 : D1 * D2 - d * (x1 * (N * (y1 * M))) = 0) : (1 : Fin n) = 0 := by
 have h : (D1 * D2 - d * (x1 * (N * (y1 * M)))) * (u * v) = 1 - d * (x1 * (N * u) * y1 * (M * v)) := by grind
 rw [h0] at h
 grind
theorem g_cross {X Y N1 N2 D1 D2 : Fin n} (h1 : X * D1 = N1) (h2 : Y * D2 = N2) (h : N1 * D2 = N2 * D1) : X * (D1 * D2) = Y * (D1 * D2) := by grind
end
instance neP : NeZero P := ⟨by decide⟩
abbrev Fp := Fin P
theorem fp_ext {a b : Fp} (h : a.val = b.val) : a = b := Fin.ext h
theorem fp_mul (a b : Fp) : (a * b).val = a.val * b.val % P := Fin.val_mul a b
theorem fp_add (a b : Fp) : (a + b).val = (a.val + b.val) % P := Fin.val_add a b
theorem fp_zero : (0 : Fp).val = 0 := rfl
theorem fp_one : (1 : Fp).val = 1 := by decide
theorem fp_mul_zero {a b : Fp} (h : a * b = 0) : a = 0 ∨ b = 0 := by
 have h2 := congrArg Fin.val h
 rw [fp_mul, fp_zero] at h2
 have key : ∀ c : Fp, P ∣ c.val → c = 0 := fun c hc => by
  apply fp_ext
  rw [fp_zero]
  rcases Nat.eq_zero_or_pos c.val with h0 | h0
  ·exact h0
  ·have := Nat.le_of_dvd h0 hc
   have := c.isLt
   omega
 rcases prime_P.dvd_mul (Nat.dvd_of_mod_eq_zero h2) with h3 | h3
 ·exact .inl (key a h3)
 ·exact .inr (key b h3)
theorem fp_one_ne : (1 : Fp) ≠ 0 := by decide
/-- the inverse; of 0 it is 0. -/
def finv (a : Fp) : Fp := ⟨pw a.val (P - 2), pw_lt _ _⟩
theorem mul_finv {a : Fp} (h : a ≠ 0) : a * finv a = 1 := by
 apply fp_ext
 rw [fp_mul, fp_one]
 exact inv_mul (fun e => h (fp_ext e)) a.isLt
theorem finv_one : finv 1 = 1 := by
 exact g_one (mul_finv fp_one_ne)
theorem fp_cancel {a b c : Fp} (hc : c ≠ 0) (h : a * c = b * c) : a = b := by
 exact g_cancel (mul_finv hc) h
def dE : Fp := ⟨37095705934669439343138083508754565189542113879843219016388785533085940283555, by decide⟩
theorem dE_def : dE = (0 - 121665) * finv 121666 := by
 have h : (121666 : Fp) * dE = 0 - 121665 := by decide +kernel
 have h2 : (121666 : Fp) ≠ 0 := by decide
 exact g_def (mul_finv h2) h
theorem d_pow : pw dE.val ((P - 1) / 2) = P - 1 := by
 have h := powMod_eq P 255 dE.val ((P - 1) / 2) 1 (by decide) (by decide)
 rw [Nat.one_mul] at h
 rw [pw, ← h]
 decide +kernel
/-- d is no square. -/
theorem d_nonsq (s : Fp) : s * s ≠ dE := by
 intro h
 have h2 := congrArg Fin.val h
 rw [fp_mul] at h2
 have hs : s.val ≠ 0 := by
  intro e
  rw [e] at h2
  exact absurd h2 (by decide)
 have h3 : pw dE.val ((P - 1) / 2) = 1 := by
  rw [← h2, show s.val * s.val % P = pw s.val 2 by rw [pw, Nat.pow_two], pw_pw, show 2 * ((P - 1) / 2) = P - 1 by decide +kernel, pw]
  exact fermat prime_P (nd_of_pos hs s.isLt)
 rw [d_pow] at h3
 exact absurd h3 (by decide)
/-- a square is d times a square just if both are 0. -/
theorem d_sq {a b : Fp} (h : a * a = dE * (b * b)) : b = 0 ∧ a = 0 := by
 have hb : b = 0 := by
  apply Classical.byContradiction
  intro hb
  exact d_nonsq (a * finv b) (g_sq1 h (mul_finv hb))
 refine ⟨hb, ?_⟩
 rw [hb] at h
 rcases fp_mul_zero (g_sq2 h) with h3 | h3 <;> exact h3
def iE : Fp := ⟨I4, I4_lt⟩
theorem iE_sq : iE * iE = 0 - 1 := by decide +kernel
/-- on the curve. -/
def onC (x y : Fp) : Prop := y * y - x * x = 1 + dE * (x * x) * (y * y)
theorem complete {x1 y1 x2 y2 e : Fp} (h1 : onC x1 y1) (h2 : onC x2 y2) (he : e * e = 1) : dE * (x1 * x2 * y1 * y2) ≠ e := by
 intro h
 have he0 : e ≠ 0 := fun e0 => fp_one_ne (g_e0 he e0)
 have hxy : x1 * y1 ≠ 0 := fun h0 => he0 (g_xy0 h h0)
 obtain ⟨a1, _⟩ := d_sq (g_compA h1 h2 he h iE_sq)
 obtain ⟨b1, _⟩ := d_sq (g_compB h1 h2 he h iE_sq)
 rcases fp_mul_zero a1 with h3 | h3
 ·exact hxy h3
 ·rcases fp_mul_zero b1 with h4 | h4
  ·exact hxy h4
  ·rcases fp_mul_zero (g_two h3 h4) with h6 | h6
   ·exact absurd h6 (by decide)
   ·exact he0 (g_y0 h h6)
theorem den1 {x1 y1 x2 y2 : Fp} (h1 : onC x1 y1) (h2 : onC x2 y2) : 1 + dE * (x1 * x2 * y1 * y2) ≠ 0 := fun h => complete h1 h2 g_m1 (g_den1 h)
theorem den2 {x1 y1 x2 y2 : Fp} (h1 : onC x1 y1) (h2 : onC x2 y2) : 1 - dE * (x1 * x2 * y1 * y2) ≠ 0 := fun h => complete h1 h2 g_p1 (g_den2 h)
structure Pt where
 x : Fp
 y : Fp
 on : onC x y
theorem Pt.ext' {p q : Pt} (hx : p.x = q.x) (hy : p.y = q.y) : p = q := by
 obtain ⟨px, py, _⟩ := p
 obtain ⟨qx, qy, _⟩ := q
 simp only at hx hy
 subst hx hy
 rfl
def addX (x1 y1 x2 y2 : Fp) : Fp := (x1 * y2 + x2 * y1) * finv (1 + dE * (x1 * x2 * y1 * y2))
def addY (x1 y1 x2 y2 : Fp) : Fp := (y1 * y2 + x1 * x2) * finv (1 - dE * (x1 * x2 * y1 * y2))
theorem closed {x1 y1 x2 y2 : Fp} (h1 : onC x1 y1) (h2 : onC x2 y2) : onC (addX x1 y1 x2 y2) (addY x1 y1 x2 y2) :=
 g_clo1 (mul_finv (den1 h1 h2)) (mul_finv (den2 h1 h2)) (g_clo0 x1 y1 x2 y2 dE h1 h2)
def padd (p q : Pt) : Pt := ⟨addX p.x p.y q.x q.y, addY p.x p.y q.x q.y, closed p.on q.on⟩
def pzero : Pt := ⟨0, 1, g_nil⟩
def pneg (p : Pt) : Pt := ⟨0 - p.x, p.y, g_neg p.on⟩
theorem padd_comm (p q : Pt) : padd p q = padd q p := by
 apply Pt.ext'
 ·show addX p.x p.y q.x q.y = addX q.x q.y p.x p.y
  unfold addX
  rw [g_c1 p.x p.y q.x q.y, g_c2 p.x p.y q.x q.y]
 ·show addY p.x p.y q.x q.y = addY q.x q.y p.x p.y
  unfold addY
  rw [g_c1 p.x p.y q.x q.y, g_c3 p.x p.y q.x q.y]
theorem padd_zero (p : Pt) : padd p pzero = p := by
 apply Pt.ext'
 ·show addX p.x p.y 0 1 = p.x
  unfold addX
  rw [g_z1, finv_one]; exact g_z3 _ _
 ·show addY p.x p.y 0 1 = p.y
  unfold addY
  rw [g_z2, finv_one]; exact g_z4 _ _
theorem padd_neg (p : Pt) : padd p (pneg p) = pzero := by
 apply Pt.ext'
 ·exact g_n1 _ _ _
 ·show addY p.x p.y (0 - p.x) p.y = 1
  unfold addY
  rw [g_n2 p.on]
  exact mul_finv (den2 p.on (pneg p).on)
theorem padd_assoc (p q r : Pt) : padd (padd p q) r = padd p (padd q r) := by
 have u1 := mul_finv (den1 p.on q.on)
 have v1 := mul_finv (den2 p.on q.on)
 have u2 := mul_finv (den1 q.on r.on)
 have v2 := mul_finv (den2 q.on r.on)
 have wl := mul_finv (den1 (padd p q).on r.on)
 have wr := mul_finv (den1 p.on (padd q r).on)
 have zl := mul_finv (den2 (padd p q).on r.on)
 have zr := mul_finv (den2 p.on (padd q r).on)
 have ne : ∀ {a b : Fp}, a ≠ 0 → b ≠ 0 → a * b ≠ 0 := fun ha hb h => (fp_mul_zero h).elim ha hb
 apply Pt.ext'
 ·exact fp_cancel (ne (fun h => fp_one_ne (g_denL u1 v1 wl h)) (fun h => fp_one_ne (g_denR u2 v2 wr h))) (g_cross (g_fracL u1 v1 wl) (g_fracR u2 v2 wr) (g_assX _ _ _ _ _ _ dE p.on q.on r.on))
 ·exact fp_cancel (ne (fun h => fp_one_ne (g_denLY u1 v1 zl h)) (fun h => fp_one_ne (g_denRY u2 v2 zr h))) (g_cross (g_fracLY u1 v1 zl) (g_fracRY u2 v2 zr) (g_assY _ _ _ _ _ _ dE p.on q.on r.on))
end F5
end

section
namespace F5
/-! Multiples. -/
def pmul : Nat → Pt → Pt
 | 0, _ => pzero
 | n + 1, p => padd (pmul n p) p
theorem zero_padd (p : Pt) : padd pzero p = p := by rw [padd_comm]; exact padd_zero p
theorem pmul_add (a b : Nat) (p : Pt) : pmul (a + b) p = padd (pmul a p) (pmul b p) := by
 induction b with
 | zero => exact (padd_zero _).symm
 | succ b ih =>
  rw [← Nat.add_assoc, pmul, pmul, ih, padd_assoc]
theorem pmul_one (p : Pt) : pmul 1 p = p := zero_padd p
theorem pmul_zero_pt (a : Nat) : pmul a pzero = pzero := by
 induction a with
 | zero => rfl
 | succ a ih => rw [pmul, ih]; exact padd_zero _
theorem pmul_mul (a b : Nat) (p : Pt) : pmul (a * b) p = pmul b (pmul a p) := by
 induction b with
 | zero => rfl
 | succ b ih => rw [Nat.mul_succ, pmul_add, ih]; rfl
theorem pmul_mod {m : Nat} {p : Pt} (h : pmul m p = pzero) (a : Nat) : pmul a p = pmul (a % m) p := by
 conv => lhs; rw [← Nat.div_add_mod a m, pmul_add, pmul_mul, h, pmul_zero_pt, zero_padd]
/-- bit by bit from above. -/
theorem pmul_bit (n i : Nat) (p : Pt) : pmul (n / 2 ^ i) p = if n / 2 ^ i % 2 = 1 then padd (padd (pmul (n / 2 ^ (i + 1)) p) (pmul (n / 2 ^ (i + 1)) p)) p else padd (pmul (n / 2 ^ (i + 1)) p) (pmul (n / 2 ^ (i + 1)) p) := by
 have h : n / 2 ^ i = n / 2 ^ (i + 1) + n / 2 ^ (i + 1) + n / 2 ^ i % 2 := by
  rw [Nat.pow_succ, ← Nat.div_div_eq_div_mul]; omega
 split
 ·rename_i hb
  conv => lhs; rw [h, hb, pmul_add, pmul_add, pmul_one]
 ·rename_i hb
  have h0 : n / 2 ^ i % 2 = 0 := by omega
  conv => lhs; rw [h, h0, Nat.add_zero, pmul_add]
/-! Sums by x, y and z. -/
section
variable {n : Nat} [NeZero n]
theorem g_repX {x1 y1 z1 x2 y2 z2 d u : Fin n} (u1 : (1 + d * (x1 * x2 * y1 * y2)) * u = 1) :
  (z1 * z2) * ((z1 * z2) * (z1 * z2) - d * ((x1 * z1) * (x2 * z2)) * ((y1 * z1) * (y2 * z2))) * ((x1 * z1 + y1 * z1) * (x2 * z2 + y2 * z2) - (x1 * z1) * (x2 * z2) - (y1 * z1) * (y2 * z2))
  = ((x1 * y2 + x2 * y1) * u) * (((z1 * z2) * (z1 * z2) - d * ((x1 * z1) * (x2 * z2)) * ((y1 * z1) * (y2 * z2))) * ((z1 * z2) * (z1 * z2) + d * ((x1 * z1) * (x2 * z2)) * ((y1 * z1) * (y2 * z2)))) := by grind
theorem g_repY {x1 y1 z1 x2 y2 z2 d v : Fin n} (v1 : (1 - d * (x1 * x2 * y1 * y2)) * v = 1) :
  (z1 * z2) * ((z1 * z2) * (z1 * z2) + d * ((x1 * z1) * (x2 * z2)) * ((y1 * z1) * (y2 * z2))) * ((y1 * z1) * (y2 * z2) + (x1 * z1) * (x2 * z2))
  = ((y1 * y2 + x1 * x2) * v) * (((z1 * z2) * (z1 * z2) - d * ((x1 * z1) * (x2 * z2)) * ((y1 * z1) * (y2 * z2))) * ((z1 * z2) * (z1 * z2) + d * ((x1 * z1) * (x2 * z2)) * ((y1 * z1) * (y2 * z2)))) := by grind
theorem g_repZ1 (x1 y1 z1 x2 y2 z2 d : Fin n) : (z1 * z2) * (z1 * z2) - d * ((x1 * z1) * (x2 * z2)) * ((y1 * z1) * (y2 * z2)) = ((z1 * z2) * (z1 * z2)) * (1 - d * (x1 * x2 * y1 * y2)) := by grind
theorem g_repZ2 (x1 y1 z1 x2 y2 z2 d : Fin n) : (z1 * z2) * (z1 * z2) + d * ((x1 * z1) * (x2 * z2)) * ((y1 * z1) * (y2 * z2)) = ((z1 * z2) * (z1 * z2)) * (1 + d * (x1 * x2 * y1 * y2)) := by grind
theorem g_div {x z f : Fin n} (h : z * f = 1) : (x * z) * f = x := by grind
theorem g_negz (x z : Fin n) : 0 - x * z = (0 - x) * z := by grind
theorem g_curve {x y d : Fin n} (h : y * y - x * x = 1 + d * (x * x) * (y * y)) : (d * (y * y) + 1) * (x * x) = y * y - 1 := by grind
theorem g_curve2 {x y d f : Fin n} (h : (d * (y * y) + 1) * f = 1) (k : x * x = (y * y - 1) * f) : y * y - x * x = 1 + d * (x * x) * (y * y) := by grind
theorem g_over {y d i : Fin n} (hi : i * i = 0 - 1) (h : d * (y * y) + 1 = 0) : i * i = d * (y * y) := by grind
theorem g_sqs {a b : Fin n} (h : a * a = b * b) : (a - b) * (a + b) = 0 := by grind
theorem g_sub0 {a b : Fin n} (h : a - b = 0) : a = b := by grind
theorem g_addn {a b : Fin n} (h : a + b = 0) : a = 0 - b := by grind
end
theorem fp_ne {a b : Fp} (ha : a ≠ 0) (hb : b ≠ 0) : a * b ≠ 0 := fun h => (fp_mul_zero h).elim ha hb
/-- x, y and z stand for a point. -/
def Rep (p : Pt) (X Y Z : Fp) : Prop := Z ≠ 0 ∧ X = p.x * Z ∧ Y = p.y * Z
theorem rep_zero : Rep pzero 0 1 1 := ⟨fp_one_ne, by show (0 : Fp) = 0 * 1; exact (Fin.zero_mul 1).symm, by show (1 : Fp) = 1 * 1; exact g_p1.symm⟩
theorem rep_add {p q : Pt} {X1 Y1 Z1 X2 Y2 Z2 : Fp} (h1 : Rep p X1 Y1 Z1) (h2 : Rep q X2 Y2 Z2) :
  Rep (padd p q) ((Z1 * Z2) * ((Z1 * Z2) * (Z1 * Z2) - dE * (X1 * X2) * (Y1 * Y2)) * ((X1 + Y1) * (X2 + Y2) - X1 * X2 - Y1 * Y2))
   ((Z1 * Z2) * ((Z1 * Z2) * (Z1 * Z2) + dE * (X1 * X2) * (Y1 * Y2)) * (Y1 * Y2 + X1 * X2))
   (((Z1 * Z2) * (Z1 * Z2) - dE * (X1 * X2) * (Y1 * Y2)) * ((Z1 * Z2) * (Z1 * Z2) + dE * (X1 * X2) * (Y1 * Y2))) := by
 obtain ⟨n1, rfl, rfl⟩ := h1
 obtain ⟨n2, rfl, rfl⟩ := h2
 have hz := fp_ne (fp_ne n1 n2) (fp_ne n1 n2)
 refine ⟨fp_ne ?_ ?_, g_repX (mul_finv (den1 p.on q.on)), g_repY (mul_finv (den2 p.on q.on))⟩
 ·rw [g_repZ1]; exact fp_ne hz (den2 p.on q.on)
 ·rw [g_repZ2]; exact fp_ne hz (den1 p.on q.on)
theorem rep_neg {p : Pt} {X Y Z : Fp} (h : Rep p X Y Z) : Rep (pneg p) (0 - X) Y Z := by
 obtain ⟨n, rfl, rfl⟩ := h
 exact ⟨n, g_negz _ _, rfl⟩
theorem rep_x {p : Pt} {X Y Z : Fp} (h : Rep p X Y Z) : X * finv Z = p.x ∧ Y * finv Z = p.y := by
 obtain ⟨n, rfl, rfl⟩ := h
 exact ⟨g_div (mul_finv n), g_div (mul_finv n)⟩
theorem rep_one (p : Pt) : Rep p p.x p.y 1 := ⟨fp_one_ne, (Fin.mul_one p.x).symm, (Fin.mul_one p.y).symm⟩
/-! What x belongs to a y. -/
theorem over_ne (y : Fp) : dE * (y * y) + 1 ≠ 0 := by
 intro h
 have h2 := (d_sq (g_over iE_sq h)).2
 have : iE ≠ 0 := by decide
 exact this h2
/-- the square of the x of a y. -/
def xsq (y : Fp) : Fp := (y * y - 1) * finv (dE * (y * y) + 1)
theorem on_iff (x y : Fp) : onC x y ↔ x * x = xsq y := by
 have hm := mul_finv (over_ne y)
 constructor
 ·intro h
  have h2 := g_curve h
  exact g_def hm h2
 ·intro h
  exact g_curve2 hm h
theorem same_y {p q : Pt} (h : p.y = q.y) : p.x = q.x ∨ p.x = 0 - q.x := by
 have h1 := (on_iff p.x p.y).1 p.on
 have h2 := (on_iff q.x q.y).1 q.on
 rw [h, ← h2] at h1
 rcases fp_mul_zero (g_sqs h1) with h3 | h3
 ·exact .inl (g_sub0 h3)
 ·exact .inr (g_addn h3)
theorem fp_neg_val (a : Fp) : (0 - a).val = if a.val = 0 then 0 else P - a.val := by
 have ha := a.isLt
 rw [Fin.sub_def]
 show (P - a.val + 0) % P = _
 rw [Nat.add_zero]
 split
 ·rename_i h; rw [h]; simp
 ·exact Nat.mod_eq_of_lt (by omega)
theorem P_odd : P % 2 = 1 := by decide
/-- a point's number: y, and the sign of x above. -/
def enc (p : Pt) : Nat := p.y.val + 2 ^ 255 * (p.x.val % 2)
theorem P_255 : P < 2 ^ 255 := by decide
theorem enc_inj {p q : Pt} (h : enc p = enc q) : p = q := by
 unfold enc at h
 have hp := p.y.isLt
 have hq := q.y.isLt
 have hP := P_255
 have hx := p.x.isLt
 have hx2 := q.x.isLt
 have hy : p.y.val = q.y.val := by omega
 have hs : p.x.val % 2 = q.x.val % 2 := by omega
 have hy2 := fp_ext hy
 rcases same_y hy2 with h1 | h1
 ·exact Pt.ext' h1 hy2
 ·refine Pt.ext' ?_ hy2
  have h2 := congrArg Fin.val h1
  rw [fp_neg_val] at h2
  split at h2
  ·rename_i h0; exact fp_ext (by rw [h2, h0])
  ·have := P_odd
   rename_i h0
   exfalso
   omega
theorem enc_lt (p : Pt) : enc p < 2 ^ 256 := by
 unfold enc
 have := p.y.isLt
 have := P_255
 have h2 : p.x.val % 2 ≤ 1 := by omega
 have h3 := Nat.mul_le_mul_left (2 ^ 255) h2
 omega
end F5
end

section
namespace F5
/-! Plain numbers below P. -/
def toF (n : Nat) : Fp := ⟨n % P, Nat.mod_lt _ (by decide)⟩
def nm (a b : Nat) : Nat := a * b % P
def na (a b : Nat) : Nat := (a + b) % P
def ns (a b : Nat) : Nat := (a + (P - b % P)) % P
theorem toF_nm (a b : Nat) : toF (nm a b) = toF a * toF b := by
 apply fp_ext
 rw [fp_mul]
 show a * b % P % P = (a % P) * (b % P) % P
 rw [Nat.mod_mod, ← Nat.mul_mod]
theorem toF_na (a b : Nat) : toF (na a b) = toF a + toF b := by
 apply fp_ext
 rw [fp_add]
 show (a + b) % P % P = (a % P + b % P) % P
 rw [Nat.mod_mod, ← Nat.add_mod]
theorem toF_ns (a b : Nat) : toF (ns a b) = toF a - toF b := by
 apply fp_ext
 rw [Fin.sub_def]
 show (a + (P - b % P)) % P % P = (P - b % P + a % P) % P
 rw [Nat.mod_mod, Nat.add_comm (P - b % P), Nat.mod_add_mod]
/-- sums by x, y and z, of plain numbers. -/
def aX (x1 y1 z1 x2 y2 z2 : Nat) : Nat := nm (nm (nm z1 z2) (ns (nm (nm z1 z2) (nm z1 z2)) (nm (nm dE.val (nm x1 x2)) (nm y1 y2)))) (ns (ns (nm (na x1 y1) (na x2 y2)) (nm x1 x2)) (nm y1 y2))
def aY (x1 y1 z1 x2 y2 z2 : Nat) : Nat := nm (nm (nm z1 z2) (na (nm (nm z1 z2) (nm z1 z2)) (nm (nm dE.val (nm x1 x2)) (nm y1 y2)))) (na (nm y1 y2) (nm x1 x2))
def aZ (x1 y1 z1 x2 y2 z2 : Nat) : Nat := nm (ns (nm (nm z1 z2) (nm z1 z2)) (nm (nm dE.val (nm x1 x2)) (nm y1 y2))) (na (nm (nm z1 z2) (nm z1 z2)) (nm (nm dE.val (nm x1 x2)) (nm y1 y2)))
theorem toF_d : toF dE.val = dE := fp_ext (Nat.mod_eq_of_lt dE.isLt)
def RepN (p : Pt) (x y z : Nat) : Prop := Rep p (toF x) (toF y) (toF z)
theorem repN_add {p q : Pt} {x1 y1 z1 x2 y2 z2 : Nat} (h1 : RepN p x1 y1 z1) (h2 : RepN q x2 y2 z2) :
  RepN (padd p q) (aX x1 y1 z1 x2 y2 z2) (aY x1 y1 z1 x2 y2 z2) (aZ x1 y1 z1 x2 y2 z2) := by
 have h := rep_add h1 h2
 unfold RepN aX aY aZ
 simp only [toF_nm, toF_na, toF_ns, toF_d]
 exact h
def mulN : Nat → Nat → Nat → Nat → Nat → Nat → Nat → Nat → (Nat × Nat × Nat)
 | 0, _, _, _, _, ax, ay, az => (ax, ay, az)
 | f + 1, n, bx, bY, bz, ax, ay, az =>
  if n % 2 = 1 then mulN f (n / 2) (aX bx bY bz bx bY bz) (aY bx bY bz bx bY bz) (aZ bx bY bz bx bY bz) (aX ax ay az bx bY bz) (aY ax ay az bx bY bz) (aZ ax ay az bx bY bz)
  else mulN f (n / 2) (aX bx bY bz bx bY bz) (aY bx bY bz bx bY bz) (aZ bx bY bz bx bY bz) ax ay az
theorem mulN_ok (f : Nat) : ∀ (n bx bY bz ax ay az : Nat) (b a : Pt), n < 2 ^ f → RepN b bx bY bz → RepN a ax ay az →
  RepN (padd a (pmul n b)) (mulN f n bx bY bz ax ay az).1 (mulN f n bx bY bz ax ay az).2.1 (mulN f n bx bY bz ax ay az).2.2 := by
 induction f with
 | zero =>
  intro n bx bY bz ax ay az b a hn hb ha
  have h0 : n = 0 := by simpa using hn
  subst h0
  show RepN (padd a pzero) ax ay az
  rw [padd_zero]; exact ha
 | succ f ih =>
  intro n bx bY bz ax ay az b a hn hb ha
  have hh : n / 2 < 2 ^ f := by rw [Nat.pow_succ] at hn; omega
  have h2 : pmul (n / 2) (padd b b) = pmul (n / 2 * 2) b := by
   rw [Nat.mul_comm, pmul_mul]
   congr 1
   show padd b b = padd (pmul 1 b) b
   rw [pmul_one]
  rw [mulN]
  split
  ·rename_i hb1
   have h := ih (n / 2) _ _ _ _ _ _ _ _ hh (repN_add hb hb) (repN_add ha hb)
   have he : padd (padd a b) (pmul (n / 2) (padd b b)) = padd a (pmul n b) := by
    have hn1 : pmul n b = padd (pmul (n / 2 * 2) b) b := by
     conv => lhs; rw [show n = n / 2 * 2 + 1 by omega]
     rfl
    rw [h2, hn1, padd_assoc, padd_comm b]
   rw [he] at h; exact h
  ·rename_i hb1
   have h := ih (n / 2) _ _ _ _ _ _ _ _ hh (repN_add hb hb) ha
   have he : padd a (pmul (n / 2) (padd b b)) = padd a (pmul n b) := by
    rw [h2, show n / 2 * 2 = n by omega]
   rw [he] at h; exact h
def baseX : Nat := 15112221349535400772501151409588531511454012693041857206046113283949847762202
def baseY : Nat := 46316835694926478169428394003475163141307993866256225615783033603165251855960
theorem base_on : onC (toF baseX) (toF baseY) := by unfold onC; decide +kernel
def pbase : Pt := ⟨toF baseX, toF baseY, base_on⟩
set_option maxRecDepth 100000 in
theorem base_mul : (mulN 253 LL baseX baseY 1 0 1 1).1 = 0 ∧ (mulN 253 LL baseX baseY 1 0 1 1).2.1 = (mulN 253 LL baseX baseY 1 0 1 1).2.2 := by decide +kernel
theorem g_zz {n : Nat} [NeZero n] {x z f : Fin n} (k : z * f = 1) (h : 0 = x * z) : x = 0 := by grind
theorem g_oo {n : Nat} [NeZero n] {y z f : Fin n} (k : z * f = 1) (h : z = y * z) : y = 1 := by grind
theorem base_order : pmul LL pbase = pzero := by
 have hb : RepN pbase baseX baseY 1 := by
  have h := rep_one pbase
  have h1 : toF 1 = 1 := by decide
  unfold RepN; rw [h1]; exact h
 have h0 : RepN pzero 0 1 1 := by
  have h := rep_zero
  have h1 : toF 1 = 1 := by decide
  have h2 : toF 0 = 0 := by decide
  unfold RepN; rw [h1, h2]; exact h
 have h := mulN_ok 253 LL baseX baseY 1 0 1 1 pbase pzero LL_lt hb h0
 rw [base_mul.1, base_mul.2, zero_padd] at h
 have h2 : toF 0 = 0 := by decide
 obtain ⟨hz, hx, hy⟩ := h
 rw [h2] at hx
 exact Pt.ext' (g_zz (mul_finv hz) hx) (g_oo (mul_finv hz) hy)
end F5
end

section
namespace F5
def rootF (a : Fp) : Fp := ⟨root a.val, root_lt _⟩
theorem rootF_even (a : Fp) : (rootF a).val % 2 = 0 := root_even _
theorem rootF_sq {a : Fp} (h : hasRoot a.val) : rootF a * rootF a = a := by
 apply fp_ext
 rw [fp_mul]
 exact root_sq h
theorem hasRoot_iff (a : Fp) : hasRoot a.val ↔ ∃ x : Fp, x * x = a := by
 constructor
 ·intro h; exact ⟨_, rootF_sq h⟩
 ·rintro ⟨x, rfl⟩
  rw [fp_mul]
  exact (root_of_sq x.isLt).1
/-- the y, the even x and the x of a number. -/
def gy (v : Nat) : Fp := toF (v % 2 ^ 255)
def gr (v : Nat) : Fp := rootF (xsq (gy v))
def gx (v : Nat) : Fp := if 2 ^ 255 ≤ v then 0 - gr v else gr v
/-- is a number a point's? -/
def okP (v : Nat) : Prop := v % 2 ^ 255 < P ∧ hasRoot (xsq (gy v)).val ∧ ¬(2 ^ 255 ≤ v ∧ gr v = 0)
instance okP_dec (v : Nat) : Decidable (okP v) := by unfold okP hasRoot; infer_instance
theorem g_negsq {n : Nat} [NeZero n] (a : Fin n) : (0 - a) * (0 - a) = a * a := by grind
theorem gx_on {v : Nat} (h : okP v) : onC (gx v) (gy v) := by
 rw [on_iff]
 have h1 : gr v * gr v = xsq (gy v) := rootF_sq h.2.1
 unfold gx
 split
 ·rw [g_negsq]; exact h1
 ·exact h1
def pget (v : Nat) (h : okP v) : Pt := ⟨gx v, gy v, gx_on h⟩
theorem gy_val {v : Nat} (h : v % 2 ^ 255 < P) : (gy v).val = v % 2 ^ 255 := Nat.mod_eq_of_lt h
theorem enc_pget {v : Nat} (hv : v < 2 ^ 256) (h : okP v) : enc (pget v h) = v := by
 show (gy v).val + 2 ^ 255 * ((gx v).val % 2) = v
 rw [gy_val h.1]
 have he : (gr v).val % 2 = 0 := rootF_even _
 have hl := (gr v).isLt
 have ho := P_odd
 unfold gx
 split
 ·rename_i h2
  have hne : (gr v).val ≠ 0 := fun hz => h.2.2 ⟨h2, fp_ext hz⟩
  rw [fp_neg_val, if_neg hne]
  have : (P - (gr v).val) % 2 = 1 := by omega
  rw [this]; omega
 ·rw [he]; omega
theorem enc_mod (p : Pt) : enc p % 2 ^ 255 = p.y.val := by
 unfold enc
 have := p.y.isLt
 have := P_255
 omega
theorem enc_gy (p : Pt) : gy (enc p) = p.y := by
 unfold gy
 rw [enc_mod]
 exact fp_ext (Nat.mod_eq_of_lt p.y.isLt)
theorem enc_ok (p : Pt) : okP (enc p) := by
 have hx := (on_iff p.x p.y).1 p.on
 refine ⟨?_, ?_, ?_⟩
 ·rw [enc_mod]; exact p.y.isLt
 ·rw [enc_gy]; exact (hasRoot_iff _).2 ⟨p.x, hx⟩
 ·rintro ⟨h1, h2⟩
  have h3 : hasRoot (xsq (gy (enc p))).val := by rw [enc_gy]; exact (hasRoot_iff _).2 ⟨p.x, hx⟩
  have h4 : gr (enc p) * gr (enc p) = xsq (gy (enc p)) := rootF_sq h3
  rw [h2, enc_gy, ← hx] at h4
  have h5 : p.x * p.x = 0 := by rw [← h4]; exact Fin.zero_mul 0
  have h6 : p.x.val = 0 := by
   rcases fp_mul_zero h5 with h | h <;> exact congrArg Fin.val h
  unfold enc at h1
  rw [h6] at h1
  have := p.y.isLt
  have := P_255
  omega
theorem pget_enc (p : Pt) (h : okP (enc p)) : pget (enc p) h = p := enc_inj (enc_pget (enc_lt p) h)
/-- the base, by its y. -/
theorem base_gy : (4 : Fp) * finv 5 = pbase.y := by
 have h : (5 : Fp) * pbase.y = 4 := by decide +kernel
 have h5 : (5 : Fp) ≠ 0 := by decide
 exact (g_def (mul_finv h5) h).symm
theorem base_x_root : hasRoot (xsq pbase.y).val ∧ rootF (xsq pbase.y) = pbase.x := by
 have hx := (on_iff pbase.x pbase.y).1 pbase.on
 have h1 := (hasRoot_iff _).2 ⟨_, hx⟩
 refine ⟨h1, ?_⟩
 have h2 := rootF_sq h1
 rw [← hx] at h2
 have he := rootF_even (pbase.x * pbase.x)
 rw [← hx]
 have hb : pbase.x.val % 2 = 0 := by decide +kernel
 have hb2 : pbase.x.val ≠ 0 := by decide +kernel
 rcases fp_mul_zero (g_sqs h2) with h3 | h3
 ·exact g_sub0 h3
 ·have h4 := g_addn h3
  rw [h4, fp_neg_val, if_neg hb2] at he
  have := P_odd
  have := pbase.x.isLt
  omega
end F5
end

section
namespace Go.Proofs.YtcfogpeinjehbaaGreatDoor
open Go Go.Proofs F5
open Sha (sumOf sumOf_length)
theorem fbytes_bval {l : List UInt8} (h : l.length = 32) : fbytes (bval l) = l := by
 obtain ⟨v, hv, rfl⟩ := fbytes_of l h
 rw [bval_fbytes hv]
theorem bval_256 {l : List UInt8} (h : l.length = 32) : bval l < 2 ^ 256 := by
 have := bval_lt l; rwa [h] at this
def secL (seed : List UInt8) : List UInt8 :=
 (((sumOf seed).take 32).set 0 (UInt8.ofNat ((((sumOf seed).take 32).getD 0 0).toNat - (((sumOf seed).take 32).getD 0 0).toNat % 8))).set 31 (UInt8.ofNat ((((sumOf seed).take 32).getD 31 0).toNat % 64 + 64))
def preL (seed : List UInt8) : List UInt8 := (sumOf seed).drop 32
theorem secL_length (seed : List UInt8) : (secL seed).length = 32 := by simp [secL, sumOf_length]
theorem preL_length (seed : List UInt8) : (preL seed).length = 32 := by simp [preL, sumOf_length]
def secN (seed : List UInt8) : Nat := bval (secL seed)
theorem secN_lt (seed : List UInt8) : secN seed < 2 ^ 256 := bval_256 (secL_length seed)
theorem secN_bytes (seed : List UInt8) : fbytes (secN seed) = secL seed := fbytes_bval (secL_length seed)
/-- The rest of the sum. -/
def restN (l : List UInt8) : Nat := bval (sumOf l) % LL
theorem restN_lt (l : List UInt8) : restN l < LL := Nat.mod_lt _ LL_pos
theorem restN_256 (l : List UInt8) : restN l < 2 ^ 256 := Nat.lt_trans (restN_lt l) (by decide)
def ptL (p : Pt) : List UInt8 := fbytes (enc p)
theorem ptL_length (p : Pt) : (ptL p).length = 32 := fbytes_length _
def pubL (seed : List UInt8) : List UInt8 := ptL (pmul (secN seed) pbase)
def sigR (seed text : List UInt8) : Nat := restN (preL seed ++ text)
def sigF (seed text : List UInt8) : List UInt8 := ptL (pmul (sigR seed text) pbase)
def sigK (seed text : List UInt8) : Nat := restN (sigF seed text ++ (pubL seed ++ text))
def sigS (seed text : List UInt8) : Nat := (sigK seed text * secN seed + sigR seed text) % LL
def signL (seed text : List UInt8) : List UInt8 := sigF seed text ++ fbytes (sigS seed text)
theorem sigS_lt (seed text : List UInt8) : sigS seed text < LL := Nat.mod_lt _ LL_pos
theorem signL_length (seed text : List UInt8) : (signL seed text).length = 64 := by simp [signL, sigF, ptL_length, fbytes_length]
/-- Is a signature right? -/
def verP (pub text sig : List UInt8) : Prop :=
 pub.length = 32 ∧ sig.length = 64 ∧ bval (sig.drop 32) < LL ∧ ∃ (hA : okP (bval pub)) (hR : okP (bval (sig.take 32))),
  enc (pmul (bval (sig.drop 32)) pbase) = enc (padd (pget _ hR) (pmul (restN (sig.take 32 ++ (pub ++ text))) (pget _ hA)))
open Classical in
noncomputable def verB (pub text sig : List UInt8) : Bool := decide (verP pub text sig)
theorem verB_true {pub text sig : List UInt8} : verB pub text sig = true ↔ verP pub text sig := by simp [verB]
theorem verB_false {pub text sig : List UInt8} : verB pub text sig = false ↔ ¬ verP pub text sig := by simp [verB]
theorem pget_of {v : Nat} {p : Pt} (h : v = enc p) (hv : okP v) : pget v hv = p := by
 subst h; exact pget_enc p hv
theorem sign_right (seed text : List UInt8) : verB (pubL seed) text (signL seed text) = true := by
 rw [verB_true]
 have h1 : (signL seed text).take 32 = sigF seed text := by
  have := ptL_length (pmul (sigR seed text) pbase)
  rw [signL, List.take_append_of_le_length (by rw [sigF, this]; omega), List.take_of_length_le (by rw [sigF, this]; omega)]
 have h2 : (signL seed text).drop 32 = fbytes (sigS seed text) := by
  have := ptL_length (pmul (sigR seed text) pbase)
  rw [signL, show 32 = (sigF seed text).length from this.symm, List.drop_left]
 have hS : bval ((signL seed text).drop 32) = sigS seed text := by rw [h2, bval_fbytes (Nat.lt_trans (sigS_lt _ _) (by decide))]
 have eA : bval (pubL seed) = enc (pmul (secN seed) pbase) := bval_fbytes (enc_lt _)
 have eR : bval ((signL seed text).take 32) = enc (pmul (sigR seed text) pbase) := by rw [h1]; exact bval_fbytes (enc_lt _)
 have kA : okP (bval (pubL seed)) := by rw [eA]; exact enc_ok _
 have kR : okP (bval ((signL seed text).take 32)) := by rw [eR]; exact enc_ok _
 refine ⟨ptL_length _, signL_length _ _, by rw [hS]; exact sigS_lt _ _, kA, kR, ?_⟩
 rw [pget_of eA kA, pget_of eR kR, hS, h1]
 show enc (pmul (sigS seed text) pbase) = enc (padd (pmul (sigR seed text) pbase) (pmul (sigK seed text) (pmul (secN seed) pbase)))
 rw [sigS, ← pmul_mod base_order, pmul_add, ← pmul_mul, padd_comm, Nat.mul_comm (sigK seed text)]
theorem ver_len {pub text sig : List UInt8} (h : sig.length ≠ 64) : verB pub text sig = false := verB_false.2 fun hv => h hv.2.1
theorem ver_pub {pub text sig : List UInt8} (h : pub.length ≠ 32) : verB pub text sig = false := verB_false.2 fun hv => h hv.1
end Go.Proofs.YtcfogpeinjehbaaGreatDoor
end

section
namespace Go.Proofs.YtcfogpeinjehbaaGreatDoor.Sha
open Go Go.Proofs Go.RowKit Sha5
theorem wpList_build_to {P : Program} {ops : Array Oper} {rest : List Oper} {o : Oper} {a : Act} {w : World} {Q : Exit → Act → World → Prop} (hg : o.guard = none) (t : TypeId) (parts : Array (Nat × Operand)) (ho : o.op = .build t parts)
  (cells : Array Value) (hb : P.built t (parts.map fun (i, x) => (i, a.eval x)).toList = some cells)
  (h : wpList P ops Q rest (a.put o.dst (.agg cells)) w) : wpList P ops Q (o :: rest) a w :=
 wpList_plain hg fun _ hK => wp_build t parts ho (by rw [hb]; rfl) (by rw [hb]; exact hK _ _ h)
set_option maxHeartbeats 2000000 in
set_option maxRecDepth 100000 in
theorem first_any (w : World) : Calls Tryz.prog 81 #[] w fun e w' => e = .returned (.agg (u64s H0.list)) ∧ Below w.heap.size w w' := by
 go_enter Tryz.func81, Tryz.ntmps81
 go_wp2
 refine bodyPost_ret (v := .agg #[.int .u64 7640891576956012808, .int .u64 13503953896175478587, .int .u64 4354685564936845355, .int .u64 11912009170470909681, .int .u64 5840696475078001361, .int .u64 11170449401992604703, .int .u64 2270897969802886507, .int .u64 6620516959819538809]) ?_ rfl ⟨rfl, ?_⟩
 ·simp [results, Tryz.results81, go_sem]
 ·exact (Below.refl _ _).alloc (Nat.le_refl _) _
set_option maxHeartbeats 2000000 in
set_option maxRecDepth 100000 in
theorem refConstants_any (w : World) : Calls Tryz.prog 82 #[] w fun e w' => e = .returned (.agg (u64s KS)) ∧ Below w.heap.size w w' := by
 obtain ⟨z, hz⟩ : ∃ z, Hid (z = u64s (List.replicate 80 0)) := ⟨_, hid rfl⟩
 have hz0 : ∀ W, (zeroValue 118).run Tryz.prog W = .ok (.agg z) W := by
  rw [hz.out]; exact (zero_of_info (n := 80) (by kernel_rfl)).1
 obtain ⟨K, hK⟩ : ∃ K, Hid (K = u64s KS) := ⟨_, hid rfl⟩
 have hKs : Hid ((Tryz.prog.info? 118).map (·.size) = some K.size) := by
  show _ = _; rw [hK.out, u64s_size, KS_length]; exact info39
 have hKo : Hid (K.all (·.oneCell') = true) := by show _ = _; rw [hK.out]; exact u64s_one _
 have hKz : Hid (z.size = K.size) := by show _ = _; rw [hz.out, hK.out, u64s_size, u64s_size, KS_length]; rfl
 go_enter Tryz.func82, Tryz.ntmps82
 go_wp2_with (first | (refine wpList_build_to rfl 118 _ rfl K (by rw [hK.out]; kernel_rfl) ?_) | (refine wpList_store_row rfl 118 (.tmp 0) (.tmp 1) rfl w.heap.size K rfl rfl 118 z (heap_alloc_new w _) hKs.out hKz.out hKo.out ?_; rw [setRow_alloc1]))
 refine bodyPost_ret (v := .agg K) ?_ rfl ⟨by rw [hK.out], (Below.refl _ _).alloc (Nat.le_refl _) _⟩
 exact results_cell_row Tryz.results82 _ _ w.heap.size 118 K (0, 0) _ rfl (heap_alloc_new w _) Tryz.underlying118 rfl hKs.out
end Go.Proofs.YtcfogpeinjehbaaGreatDoor.Sha
end

section
namespace Go.Proofs.YtcfogpeinjehbaaGreatDoor.Sha
open Go Go.Proofs Go.RowKit Sha5
/-- the count's bytes, the last k of them told. -/
def eb (x k : Nat) : List UInt8 := List.replicate (16 - k) 0 ++ (wordBytes x).drop (8 - k)
theorem eb_step (x k : Nat) (hk : k < 8) : (eb x k).set (15 - k) (Sha5.byteOf x (7 - k)) = eb x (k + 1) := by
 match k, hk with
 | 0, _ => rfl
 | 1, _ => rfl
 | 2, _ => rfl
 | 3, _ => rfl
 | 4, _ => rfl
 | 5, _ => rfl
 | 6, _ => rfl
 | 7, _ => rfl
theorem eb_length (x k : Nat) (hk : k ≤ 8) : (eb x k).length = 16 := by simp [eb, wordBytes_length]; omega
theorem eb_all (x n : Nat) (hx : x = 8 * n) (hn : x < M) : eb x 8 = wordBytes (8 * n / M) ++ wordBytes (8 * n % M) := by
 have h1 : 8 * n / M = 0 := Nat.div_eq_of_lt (by omega)
 have h2 : 8 * n % M = 8 * n := Nat.mod_eq_of_lt (by omega)
 rw [h1, h2, ← hx]; rfl
theorem bytesA_set (l : List UInt8) (i : Nat) (y : UInt8) : (bytesA l).setIfInBounds i (.int .u8 (y.toNat : Int)) = bytesA (l.set i y) := by
 simp [bytesA, Lib.byteCells, List.map_set]
theorem madeBytes : madeCells #[Value.int .u8 0] 16 = bytesA (eb 0 0) := by kernel_rfl
theorem reads_block (w : World) (l : List UInt8) : Reads (w.alloc (.cells (bytesA l) 5)) (w.heap.size + 1) 1 (some ⟨w.heap.size, 0, none⟩) l.length (Lib.byteCells l) := by
 refine ⟨by simp [Lib.byteCells_length], fun _ => ⟨_, rfl, by simp, fun j u hj => ?_⟩⟩
 rw [show (⟨w.heap.size, 0, none⟩ : Addr).add j = ⟨w.heap.size, j, none⟩ from by unfold Addr.add; split <;> simp_all]
 rw [(Blk.new w 5 (bytesA l)).cell, bytesA, List.getElem?_toArray]
 exact hj
set_option maxHeartbeats 4000000 in
set_option maxRecDepth 100000 in
theorem refFilled_any (A : Option Addr) (n c B : Nat) (l : List UInt8) (w : World) (hr : Reads w B 1 A n (Lib.byteCells l)) (hn : n ≤ 549755813888) (hBw : B ≤ w.heap.size) :
  Calls Tryz.prog 83 #[.slice A n c] w (GrowEnd w.heap.size (filled l) w) := by
 have hl : l.length = n := by have := hr.1; simpa [Lib.byteCells_length] using this
 have HL := hid hl
 clear hl
 obtain ⟨i0, hi, hz0, hz1, hz2⟩ := info_parts infoByte
 have hoe := owns_empty w
 have hr0 := hr.alloc hBw (.cells #[] 5)
 have hbe : Below w.heap.size w (w.alloc (.cells #[] 5)) := (Below.refl _ _).alloc (Nat.le_refl _) _
 go_enter Tryz.func83, Tryz.ntmps83
 go_wp2_with (at_builtin; refine wpList_append_any _ rfl (.tmp 7) (.tmp 8) 22 rfl w.heap.size 5 i0 (.int .u8 0) 1 1 Tryz.underlying22 hi hz0 hz1 hz2 rfl (by decide) _ 0 [] rfl hoe B A n c (Lib.byteCells l) rfl hr0 (Lib.byteCells_one _) (by unfold maxLen; omega) (by omega) (by simp) ?_)
 intro v1 w1 ho1 hg1 _
 have hb1 : Below w.heap.size w w1 := hbe.grown hg1 (by simp) (fun k hk => (hoe.lt k hk).1)
 clear hoe hr0 hbe hg1
 have hs1 := hb1.size
 have hr1 := hid (reads_one w1 128 (0, 0))
 go_wp2_with (at_builtin; refine wpList_append_any _ rfl (.tmp 10) (.tmp 11) 22 rfl w.heap.size 5 i0 (.int .u8 0) 1 1 Tryz.underlying22 hi hz0 hz1 hz2 rfl (by decide) _ _ _ rfl (ho1.alloc _) (w1.heap.size + 1) _ 1 1 (Lib.byteCells [128]) rfl hr1.out (Lib.byteCells_one _) (by unfold maxLen; omega) (by omega) (by simp; omega) ?_)
 intro v2 w2 ho2 hg2 _
 have hb2 : Below w.heap.size w w2 := (hb1.alloc hs1 _).grown hg2 (by simp; omega) (fun k hk => (ho1.lt k hk).1)
 have ho2' : Hid (w2.ownsRow w.heap.size 5 1 v2 (n + 1) (Lib.byteCells (l ++ 128 :: List.replicate 0 0))) := by
  show World.ownsRow _ _ _ _ _ _ _
  rw [List.replicate_zero, Lib.byteCells_append]; exact ho2
 have HB2 := hid hb2
 obtain ⟨Z, hZ⟩ := named (zerosN n)
 have hZl : Z < 128 := by rw [hZ.out]; exact zerosN_lt n
 obtain ⟨A2, c2, rfl, _⟩ := own_form_cap ho2
 clear ho1 hg2 hr1 hb1 hb2 ho2 hs1
 go_wp2_with fail
 go_loopw [3] (fun v wr => ∃ (k m : Nat) (A3 : Option Addr) (c3 : Nat), k ≤ Z ∧ m ≤ n + 1 + k ∧ n + 1 + k ≤ m ∧ v = .slice A3 m c3 ∧ wr.ownsRow w.heap.size 5 1 (.slice A3 m c3) m (Lib.byteCells (l ++ 128 :: List.replicate k 0)) ∧ Below w.heap.size w wr) (fun v _ => match v with | .slice _ m _ => n + 1 + 200 - m | _ => 0)
 case atStart => exact ⟨0, n + 1, A2, c2, Nat.zero_le _, Nat.le_refl _, Nat.le_refl _, rfl, ho2'.out, HB2.out⟩
 case round =>
  obtain ⟨k, m, A3, c3, hk, hm1, hm2, rfl, ho3, hb3⟩ := hrel
  clear ho2' HB2
  obtain rfl : m = n + 1 + k := by omega
  have hs3 := hb3.size
  by_cases hlt : k < Z
  ·have hq : (((((n + 1 + k : Nat) : Int)) % 128) != 112) = true := by
    have := zerosN_least n k (by rw [← hZ.out]; exact hlt)
    simp; omega
   obtain ⟨L, hL⟩ := named (n + 1 + k)
   rw [← hL.out] at hq ho3 ⊢
   have hLl : L ≤ n + 129 := by rw [hL.out]; omega
   have hr3 := hid (reads_one wr 0 (0, 0))
   go_wp2_with (at_builtin; refine wpList_append_any _ rfl (.tmp 17) (.tmp 18) 22 rfl w.heap.size 5 i0 (.int .u8 0) 1 1 Tryz.underlying22 hi hz0 hz1 hz2 rfl (by decide) _ _ _ rfl (ho3.alloc _) (wr.heap.size + 1) _ 1 1 (Lib.byteCells [0]) rfl hr3.out (Lib.byteCells_one _) (by unfold maxLen; omega) (by omega) (by simp; omega) ?_)
   intro v4 w4 ho4 hg4 _
   have hb4 : Below w.heap.size w w4 := (hb3.alloc hs3 _).grown hg4 (by simp; omega) (fun k hk => (ho3.lt k hk).1)
   obtain ⟨A4, c4, rfl, _⟩ := own_form_cap ho4
   have ho5 : Hid (w4.ownsRow w.heap.size 5 1 (.slice A4 (L + 1) c4) (L + 1) (Lib.byteCells (l ++ 128 :: List.replicate (k + 1) 0))) := by
    have e1 : l ++ 128 :: List.replicate (k + 1) 0 = (l ++ 128 :: List.replicate k 0) ++ [0] := by
     rw [List.replicate_succ', List.append_assoc]; rfl
    show World.ownsRow _ _ _ _ _ _ _
    rw [e1, Lib.byteCells_append]; exact ho4
   clear ho4 hg4 hr3 ho3
   go_wp2_with fail
   go_roundw
   case rel => exact ⟨k + 1, L + 1, A4, c4, by omega, by have := hL.out; omega, by have := hL.out; omega, rfl, ho5.out, hb4⟩
   case measure => show n + 1 + 200 - (L + 1) < n + 1 + 200 - L; omega
  ·obtain rfl : k = Z := by omega
   have hq : (((((n + 1 + k : Nat) : Int)) % 128) != 112) = false := by
    have := zerosN_spec n
    rw [← hZ.out] at this
    simp; omega
   obtain ⟨L, hL⟩ := named (n + 1 + k)
   rw [← hL.out] at hq ho3 ⊢
   have hLl : L ≤ n + 129 := by rw [hL.out]; omega
   obtain ⟨x, hx⟩ := named (8 * n)
   have hxl : x < M := by rw [hx.out]; unfold M; omega
   have hx2 : 8 * (n : Int) = (x : Int) := by rw [hx.out]; simp
   have hmk : ∀ W : World, (Instr.makeSlice 22 (.int .i64 16) (.int .i64 16)).run Tryz.prog W = .ok (.slice (some ⟨W.heap.size, 0, none⟩) 16 16) (W.alloc (.cells (bytesA (eb 0 0)) 5)) := fun W => by
    rw [← madeBytes]
    exact run_make_row' (P := Tryz.prog) 22 5 (.int .u8 0) 1 Tryz.underlying22 infoByte rfl .i64 .i64 16 (by omega) (by omega) W
   have hxi : (x : Int) ≤ 4398046511104 := by omega
   have HO3 := hid ho3
   have HB3 := hid hb3
   obtain ⟨E0, hE0⟩ : ∃ E0, Hid (E0 = bytesA (eb 0 0)) := ⟨_, hid rfl⟩
   rw [← hE0.out] at hmk
   clear ho3 hb3 hm1 hm2
   go_wp2_with fail
   clear hmk
   go_loopw [4, 6] (fun nv iv w2 => ∃ (j y : Nat) (d : Array Value), 7 ≤ j ∧ j ≤ 15 ∧ iv = .int .i64 (j : Nat) ∧ nv = .int .i64 (y : Nat) ∧ Hid (y = x / 2 ^ (8 * (15 - j))) ∧ Hid (d = bytesA (eb x (15 - j))) ∧ w2 = wr.alloc (.cells d 5)) (fun _ iv _ => (intOf iv).toNat)
   case atStart => exact ⟨15, x, E0, by omega, by omega, rfl, rfl, hid (by simp), hid (by rw [hE0.out]; rfl), rfl⟩
   case round =>
    obtain ⟨j, y, d, hj1, hj2, rfl, rfl, hy, hd, rfl⟩ := hrel
    have hyl : y ≤ 4398046511104 := by
     have : y ≤ x := by rw [hy.out]; exact Nat.div_le_self _ _
     omega
    by_cases hj8 : 8 ≤ j
    ·have hstep := eb_step x (15 - j) (by omega)
     rw [show 15 - (15 - j) = j by omega, show 7 - (15 - j) = j - 8 by omega, show 15 - j + 1 = 15 - (j - 1) by omega] at hstep
     have hbt := byteOf_nat x (j - 8)
     rw [show 56 - 8 * (j - 8) = 8 * (15 - j) by omega, ← hy.out] at hbt
     generalize Sha5.byteOf x (j - 8) = bt at *
     have hset : Hid (d.setIfInBounds j (.int .u8 (bt.toNat : Int)) = bytesA (eb x (15 - (j - 1)))) := by
      show _ = _
      rw [hd.out, bytesA_set, hstep]
     have hyn : Hid (y / 256 = x / 2 ^ (8 * (15 - (j - 1)))) := by
      show _ = _
      rw [hy.out, Nat.div_div_eq_div_mul, show 8 * (15 - (j - 1)) = 8 * (15 - j) + 8 by omega, Nat.pow_add]
     have hds : d.size = 16 := by rw [hd.out, bytesA_size, eb_length x _ (by omega)]
     have hdj : ∃ u, d[j]? = some u := ⟨_, Array.getElem?_eq_getElem (by omega)⟩
     obtain ⟨u, hdj⟩ := hdj
     have hb1 : (y : Int) % 256 = (bt.toNat : Int) := by rw [hbt]; simp
     have hb2 : IntKind.u8.wrap (bt.toNat : Int) = (bt.toNat : Int) := by rw [IntKind.wrap_u8']; have := bt.toNat_lt; omega
     clear hstep hbt hds
     go_wp2
     exact ⟨⟨j - 1, y / 256, _, by omega, by omega, by rw [show ((j : Int) - 1) = ((j - 1 : Nat) : Int) from by omega], by simp, hyn, hset, rfl⟩, by simp [intOf]; omega⟩
    ·obtain rfl : j = 7 := by omega
     have hd8 : Hid (d = bytesA (eb x 8)) := hd
     have hrd := reads_block wr (eb x 8)
     rw [← hd8.out, eb_length x 8 (by omega)] at hrd
     have hs3 := HB3.out.size
     go_wp2_with (at_builtin; refine wpList_append_any _ rfl (.tmp 36) (.tmp 37) 22 rfl w.heap.size 5 i0 (.int .u8 0) 1 1 Tryz.underlying22 hi hz0 hz1 hz2 rfl (by decide) _ _ _ rfl (HO3.out.alloc _) (wr.heap.size + 1) _ 16 16 (Lib.byteCells (eb x 8)) rfl hrd (Lib.byteCells_one _) (by unfold maxLen; omega) (by omega) (by simp; omega) ?_)
     intro v5 w5 ho5 hg5 _
     have hb5 : Below w.heap.size w w5 := (HB3.out.alloc hs3 _).grown hg5 (by simp; omega) (fun k hk => (HO3.out.lt k hk).1)
     have hfin : Hid (w5.ownsRow w.heap.size 5 1 v5 (filled l).length (Lib.byteCells (filled l))) := by
      have e1 : filled l = (l ++ 128 :: List.replicate k 0) ++ eb x 8 := by
       unfold filled
       rw [HL.out, ← hZ.out, eb_all x n hx.out hxl, List.append_assoc]; rfl
      have e2 : (filled l).length = L + 16 := by
       rw [e1, List.length_append, eb_length x 8 (by omega), List.length_append, HL.out, hL.out]; simp; omega
      show World.ownsRow _ _ _ _ _ _ _
      rw [e2, e1, Lib.byteCells_append]; exact ho5
     clear ho5 hg5 hrd
     go_wp2
     go_ret
     exact ⟨v5, rfl, hfin.out, hb5⟩
end Go.Proofs.YtcfogpeinjehbaaGreatDoor.Sha
end
