/-
  The contract of field's times: the product's rest. Conditions: both numbers' limbs are read.
-/
import Derived.Test.YtphlehinjooncaaDoorFldTimes
import Derived.Deep.QuietTactic
import Derived.BigQuiet
import Derived.Laws.Cover3
set_option linter.unusedVariables false
set_option linter.unusedSimpArgs false
namespace Go.Proofs.YtphlehinjooncaaDoor
open Go Go.Proofs Go.RowKit F5

theorem times_arith {lo hi lo' top : Nat} (h1 : lo < M ^ 4) (h2 : hi < M ^ 4) (h3 : lo' < M ^ 4) (h : lo' + M ^ 4 * top = lo + 38 * hi) : top ≤ 38 ∧ subP (foldN top lo') P = (lo + M ^ 4 * hi) % P := by
  have ht : top ≤ 38 := by unfold M at *; omega
  refine ⟨ht, ?_⟩
  obtain ⟨q, hq⟩ : ∃ q, q = lo' / 2 ^ 255 := ⟨_, rfl⟩
  obtain ⟨s, hs⟩ : ∃ s, s = lo' % 2 ^ 255 := ⟨_, rfl⟩
  have h5 : lo' = 2 ^ 255 * q + s := by rw [hq, hs]; exact (Nat.div_add_mod _ _).symm
  have hsl : s < 2 ^ 255 := by rw [hs]; exact Nat.mod_lt _ (by decide)
  have hql : q ≤ 1 := by unfold M at h3; omega
  have hF : foldN top lo' = 38 * top + 19 * q + s := by unfold foldN; rw [← hq, ← hs]; omega
  have hN : lo + M ^ 4 * hi = foldN top lo' + P * (q + 2 * top + 2 * hi) := by rw [hF]; unfold M P at *; omega
  have hFl : foldN top lo' < M ^ 4 := by rw [hF]; unfold M; omega
  have hF2 : foldN top lo' < 2 * P := by rw [hF]; unfold P; omega
  rw [subP_P hFl, hN, Nat.add_mul_mod_self_left]
  split
  · rename_i hle
    rw [Nat.mod_eq_sub_mod hle, Nat.mod_eq_of_lt (by omega)]
  · rw [Nat.mod_eq_of_lt (by omega)]

theorem PrimeAt.drewN {w : World} (h : PrimeAt w) (n : Nat) : PrimeAt (w.drewN n) := h
theorem slice8 (g i : Nat) (hi : i < 8) (W : World) : (Instr.sliceAt 66 (.pointer (some ⟨g, 0, none⟩)) (some (.int .i64 (i : Int))) none none).run Tryd.prog W = .ok (.slice (some ⟨g, i, none⟩) (8 - i) (8 - i)) W := by
  have hal : Tryd.prog.arrayLen 66 = 8 := by kernel_rfl
  have hel : Tryd.prog.elem 66 = 23 := by kernel_rfl
  rw [run_sliceAt_array_l W 66 ⟨g, 0, none⟩ (by rw [hal, hel]; exact Tryd.underlying66) .i64 (i : Int) (by omega) (by rw [hal]; omega), hal, hel, Tryd.sizeOf23]
  simp only [Result.andThen, slicedAt, Int.toNat_natCast, Nat.mul_one]
  rw [if_neg (by omega)]
  have e : (⟨g, 0, none⟩ : Addr).add i = ⟨g, i, none⟩ := by unfold Addr.add; split <;> simp_all
  rw [e]
theorem slice8h (g : Nat) (W : World) : (Instr.sliceAt 66 (.pointer (some ⟨g, 0, none⟩)) none (some (.int .i64 4)) none).run Tryd.prog W = .ok (.slice (some ⟨g, 0, none⟩) 4 8) W := by
  have hal : Tryd.prog.arrayLen 66 = 8 := by kernel_rfl
  have hel : Tryd.prog.elem 66 = 23 := by kernel_rfl
  rw [run_sliceAt_array_h W 66 ⟨g, 0, none⟩ (by rw [hal, hel]; exact Tryd.underlying66) .i64 4 (by omega) (by rw [hal]; omega), hal, hel, Tryd.sizeOf23]
  rfl
theorem arr4 (p : Option Addr) (n c : Nat) (hn : 4 ≤ n) (W : World) : (Instr.arrayAt 26 (.slice p n c)).run Tryd.prog W = .ok (.pointer p) W := run_arrayAt W _ _ 4 p n c Tryd.underlying26 hn

/-- The product, as far as i of the limbs have come. -/
def RowsAt (gw : Nat) (A B : List Nat) (w : World) (i : Nat) (wr : World) : Prop :=
  ∃ W, W.length = 8 ∧ All M W ∧ val M W = val M (A.take i) * val M B ∧ (∀ j, i + 4 ≤ j → W.getD j 0 = 0) ∧ Blk wr gw 66 (u64s W) ∧ Below w.heap.size w wr ∧ Blk wr w.heap.size 26 (u64s [0, 0, 0, 0])
theorem RowsAt.drew {gw i : Nat} {A B : List Nat} {w wr : World} (h : RowsAt gw A B w i wr) : RowsAt gw A B w i wr.drew := by
  obtain ⟨W, h1, h2, h3, h4, h5, h6, h7⟩ := h
  exact ⟨W, h1, h2, h3, h4, h5.drew, h6.drew, h7.drew⟩

def RowEnd (gw : Nat) (A B : List Nat) (w : World) (i : Nat) (e : Ending) (w' : World) : Prop :=
  ∃ c : Nat, e = .returned (.int .u64 (c : Int)) ∧ (∃ u, w'.cell? ⟨gw, i + 4, none⟩ = some u) ∧ w'.frozen? ⟨gw, i + 4, none⟩ = false ∧ Hid (RowsAt gw A B w (i + 1) (w'.setCell ⟨gw, i + 4, none⟩ (.int .u64 (c : Int))))

theorem getD_mid (X Y : List Nat) (j : Nat) (hl : X.length = Y.length) (h : X.drop j = Y.drop j) (k : Nat) (hk : j ≤ k) : X.getD k 0 = Y.getD k 0 := by
  have e : ∀ Z : List Nat, Z.getD k 0 = (Z.drop j).getD (k - j) 0 := fun Z => by
    rw [List.getD_eq_getElem?_getD, List.getD_eq_getElem?_getD, List.getElem?_drop, show j + (k - j) = k by omega]
  rw [e X, e Y, h]

theorem row_arith {A B W L : List Nat} {i c : Nat} (hi : i < 4) (hA4 : A.length = 4) (hB4 : B.length = 4) (hW8 : W.length = 8) (hW : All M W) (hv : val M W = val M (A.take i) * val M B) (hz : ∀ j, i + 4 ≤ j → W.getD j 0 = 0)
    (hc : c < M) (hL : Part M ((W.drop i).take 4) 4 L c (A.getD i 0 * val M B)) :
    (((W.take i ++ L ++ W.drop (i + 4)).set (i + 4) c).length = 8) ∧ All M ((W.take i ++ L ++ W.drop (i + 4)).set (i + 4) c) ∧ val M ((W.take i ++ L ++ W.drop (i + 4)).set (i + 4) c) = val M (A.take (i + 1)) * val M B ∧
      ∀ j, i + 1 + 4 ≤ j → ((W.take i ++ L ++ W.drop (i + 4)).set (i + 4) c).getD j 0 = 0 := by
  obtain ⟨h1, h2, _, h4⟩ := hL
  have hl4 : ((W.drop i).take 4).length = 4 := by simp; omega
  have hLl : L.length = 4 := h1.trans hl4
  have ht : (W.take i).length = i := by simp; omega
  have hX8 : (W.take i ++ L ++ W.drop (i + 4)).length = 8 := by simp [ht, hLl]; omega
  have hd : (W.take i ++ L ++ W.drop (i + 4)).drop (i + 4) = W.drop (i + 4) := by
    rw [List.drop_append_of_le_length (by simp [ht, hLl]), List.drop_of_length_le (by simp [ht, hLl]), List.nil_append]
  have hg : ∀ j, i + 4 ≤ j → (W.take i ++ L ++ W.drop (i + 4)).getD j 0 = 0 := fun j hj => by
    rw [getD_mid _ W (i + 4) (by rw [hX8, hW8]) hd j hj]; exact hz j hj
  have hAll : All M (W.take i ++ L ++ W.drop (i + 4)) := All.append (All.append (fun x hx => hW x (List.mem_of_mem_take hx)) h2) (fun x hx => hW x (List.mem_of_mem_drop hx))
  refine ⟨by simpa using hX8, hAll.set hc, ?_, fun j hj => ?_⟩
  · have hs := val_set M (W.take i ++ L ++ W.drop (i + 4)) (i + 4) c (by omega)
    rw [hg (i + 4) (Nat.le_refl _), Nat.mul_zero, Nat.add_zero] at hs
    have hWs : W = W.take i ++ ((W.drop i).take 4 ++ W.drop (i + 4)) := by
      rw [← List.drop_drop, List.take_append_drop, List.take_append_drop]
    have e1 : val M W = val M (W.take i) + M ^ i * (val M ((W.drop i).take 4) + M ^ 4 * val M (W.drop (i + 4))) := by
      conv => lhs; rw [hWs]
      rw [val_append, val_append, ht, hl4]
    rw [hs, val_append, val_append, List.length_append, ht, hLl, val_take_succ _ _ _ (by omega), Nat.add_mul, ← hv, e1]
    have h5 := congrArg (M ^ i * ·) h4
    simp only [Nat.mul_add] at h5
    rw [Nat.mul_add, Nat.pow_add, Nat.mul_assoc, Nat.mul_assoc, Nat.mul_assoc]
    omega
  · rw [F5.getD_set_ne _ _ (by omega)]
    exact hg j (by omega)

set_option maxHeartbeats 1000000 in
theorem row_any (g o h oq i : Nat) (A B : List Nat) (w wr : World) (hR : RowsAt (w.heap.size + 1) A B w i wr) (hi : i < 4) (hA4 : A.length = 4) (hA : All M A) (hB4 : B.length = 4) (hB : All M B)
    (hOB : ∀ j, j < 4 → w.cell? ⟨h, oq + j, none⟩ = some (.int .u64 ((B.getD j 0 : Nat) : Int))) (hh : h < w.heap.size) :
    Calls Tryd.prog 40 #[.pointer (some ⟨w.heap.size + 1, i, none⟩), .int .u64 ((A.getD i 0 : Nat) : Int), .pointer (some ⟨h, oq, none⟩)] wr (RowEnd (w.heap.size + 1) A B w i) := by
  obtain ⟨W, h1, h2, h3, h4, h5, h6, h7⟩ := hR
  have ht : (W.take i).length = i := by simp; omega
  have hl4 : ((W.drop i).take 4).length = 4 := by simp; omega
  have hWs : W = W.take i ++ (W.drop i).take 4 ++ W.drop (i + 4) := by
    rw [List.append_assoc, ← List.drop_drop, List.take_append_drop, List.take_append_drop]
  have hBk : Blk wr (w.heap.size + 1) 66 (u64s (W.take i ++ (W.drop i).take 4 ++ W.drop (i + 4))) := by rw [← hWs]; exact h5
  refine (addTimes_any (w.heap.size + 1) i 66 h oq (A.getD i 0) (W.take i) ((W.drop i).take 4) B (W.drop (i + 4)) wr hBk ht hl4
    (fun x hx => h2 x (List.mem_of_mem_drop (List.mem_of_mem_take hx))) hB4 hB ?_ (hA.getD (by decide) i)).mono ?_
  · intro X L _ _ hg j hj
    rw [hg.cell_far ⟨h, oq + j, none⟩ (Nat.lt_of_lt_of_le hh h6.size) (fun e => by injection e with e; have : h = w.heap.size + 1 := e; omega), h6.cell (p := ⟨h, oq + j, none⟩) hh]
    exact hOB j hj
  rintro e w' ⟨L, c, rfl, hc, hL, hb, hg⟩
  obtain ⟨a1, a2, a3, a4⟩ := row_arith hi hA4 hB4 h1 h2 h3 h4 hc hL
  have hX8 : (W.take i ++ L ++ W.drop (i + 4)).length = 8 := by simpa using a1
  refine ⟨c, rfl, ⟨_, (hb.cell _).trans (Array.getElem?_eq_getElem (by rw [u64s_size, hX8]; omega))⟩, hb.frozen _, Lib.hid ⟨_, a1, a2, a3, a4, ?_, ?_, ?_⟩⟩
  · have := hb.set_ (i + 4) (.int .u64 (c : Int))
    rwa [u64s_set] at this
  · exact (h6.grown hg h6.size (fun k hk => by injection hk with hk; omega)).setCell (by show w.heap.size ≤ w.heap.size + 1; omega) _
  · exact (h7.grown hg (by intro e; injection e with e; omega)).far (by show w.heap.size ≠ w.heap.size + 1; omega) _

theorem info8 : (Tryd.prog.info? 66).map (·.size) = some 8 := by kernel_rfl

set_option maxHeartbeats 4000000 in
set_option maxRecDepth 100000 in
theorem times_any (g o h oq : Nat) (A B : List Nat) (w : World) (hA4 : A.length = 4) (hA : All M A) (hB4 : B.length = 4) (hB : All M B)
    (hOA : ∀ j, j < 4 → w.cell? ⟨g, o + j, none⟩ = some (.int .u64 ((A.getD j 0 : Nat) : Int))) (hg : g < w.heap.size)
    (hOB : ∀ j, j < 4 → w.cell? ⟨h, oq + j, none⟩ = some (.int .u64 ((B.getD j 0 : Nat) : Int))) (hh : h < w.heap.size) (hP : PrimeAt w) :
    Calls Tryd.prog 34 #[.pointer (some ⟨g, o, none⟩), .pointer (some ⟨h, oq, none⟩)] w fun e w' => e = .returned (.agg (u64s (digs M (val M A * val M B % P) 4))) ∧ Below w.heap.size w w' := by
  have hal : Tryd.prog.arrayLen 26 = 4 := by kernel_rfl
  have hel : Tryd.prog.elem 26 = 23 := by kernel_rfl
  have hal8 : Tryd.prog.arrayLen 66 = 8 := by kernel_rfl
  have hel8 : Tryd.prog.elem 66 = 23 := by kernel_rfl
  have HOA := Lib.hid hOA
  have HOB := Lib.hid hOB
  have HA4 := Lib.hid hA4
  have HB4 := Lib.hid hB4
  have HA := Lib.hid hA
  have HB := Lib.hid hB
  have HP := Lib.hid hP
  clear hOA hOB hA4 hB4 hA hB hP
  go_enter Tryd.func34, Tryd.ntmps34
  go_wp2
  go_loopw [6, 10] (fun _ iv wr => ∃ i, i ≤ 4 ∧ iv = .int .i64 (i : Nat) ∧ RowsAt (w.heap.size + 1) A B w i wr) (fun _ iv _ => 4 - (intOf iv).toNat)
  case atStart =>
    refine ⟨0, by omega, rfl, List.replicate 8 0, rfl, fun x hx => by rw [List.eq_of_mem_replicate hx]; decide, by simp [val], fun j _ => ?_, ?_, ?_, ?_⟩
    · rw [List.getD_eq_getElem?_getD, List.getElem?_replicate]; split <;> rfl
    · have := Blk.new (w.alloc (.cells (u64s [0, 0, 0, 0]) 26)) 66 (u64s (List.replicate 8 0))
      rw [show (w.alloc (.cells (u64s [0, 0, 0, 0]) 26)).heap.size = w.heap.size + 1 by simp] at this
      exact this
    · exact ((Below.refl _ _).alloc (Nat.le_refl _) _).alloc (by simp) _
    · exact (Blk.new w 26 (u64s [0, 0, 0, 0])).alloc _
  case round =>
    obtain ⟨i, hi, rfl, hR⟩ := hrel
    have HR := Lib.hid hR
    by_cases hlt : i < 4
    · obtain ⟨W, h1, h2, h3, h4, h5, h6, h7⟩ := hR
      have hx : wr.cell? ⟨g, o + i, none⟩ = some (.int .u64 ((A.getD i 0 : Nat) : Int)) := (h6.cell (p := ⟨g, o + i, none⟩) hg).trans (HOA.out i hlt)
      have HC := Lib.hid (row_any g o h oq i A B w wr.drew HR.out.drew hlt HA4.out HA.out HB4.out HB.out HOB.out hh)
      clear h1 h2 h3 h4 h5 h6 h7
      generalize A.getD i 0 = x at *
      have hsl := slice8 (w.heap.size + 1) i (by omega)
      have harr := arr4 (some ⟨w.heap.size + 1, i, none⟩) (8 - i) (8 - i) (by omega)
      have hsum : IntKind.i64.wrap ((i : Int) + 4) = (i : Int) + 4 := IntWalk.i64_in _ (by omega)
      have hs0 : (0 : Int) ≤ (i : Int) + 4 := by omega
      have hs8 : (i : Int) + 4 < 8 := by omega
      have hsn : ((i : Int) + 4).toNat = i + 4 := by omega
      go_wp2
      go_region_with (go_at_call 40; (with_reducible refine HC.out.mono ?_); rintro e w2 ⟨c, rfl, ⟨u, hcell⟩, hfr, hnext⟩)
      all_goals
        go_wp2
        go_roundw
        case rel => exact ⟨i + 1, by omega, by go_num, hnext.out⟩
        case measure => simp [intOf]; omega
    · obtain rfl : i = 4 := by omega
      obtain ⟨W, h1, h2, h3, h4, h5, h6, h7⟩ := hR
      have hsl4 := slice8 (w.heap.size + 1) 4 (by omega)
      have hslh := slice8h (w.heap.size + 1)
      have harr0 := arr4 (some ⟨w.heap.size + 1, 0, none⟩) 4 8 (by omega)
      have harr4 := arr4 (some ⟨w.heap.size + 1, 4, none⟩) 4 4 (by omega)
      have hlo4 : (W.take 4).length = 4 := by simp; omega
      have hhi4 : (W.drop 4).length = 4 := by simp; omega
      have hloA : All M (W.take 4) := fun x hx => h2 x (List.mem_of_mem_take hx)
      have hhiA : All M (W.drop 4) := fun x hx => h2 x (List.mem_of_mem_drop hx)
      have hb0 : Hid (Blk wr (w.heap.size + 1) 66 (u64s ([] ++ W.take 4 ++ W.drop 4))) := Lib.hid (by rw [List.nil_append, List.take_append_drop]; exact h5)
      have hwv : Hid (val M (W.take 4) + M ^ 4 * val M (W.drop 4) = val M A * val M B) := Lib.hid (by
        have e : val M W = val M (W.take 4 ++ W.drop 4) := by rw [List.take_append_drop]
        rw [val_append, hlo4] at e
        rw [← e, h3, val_take4 HA4.out])
      have H6 := Lib.hid h6
      have H7 := Lib.hid h7
      have HPr := Lib.hid (HP.out.old h6)
      clear h1 h2 h3 h4 h5 h6 h7 HR
      generalize W.take 4 = lo at *
      generalize W.drop 4 = hi' at *
      go_wp2
      go_quiet (fail)
      go_wp2_with fail
      refine (addTimes_any (w.heap.size + 1) 0 66 (w.heap.size + 1) 4 38 [] lo hi' hi' _ (hb0.out.drewN _) rfl hlo4 hloA hhi4 hhiA ?_ (by decide)).mono ?_
      · intro X L hL4 hb hgr j hj
        rw [hb.cell, show ([] : List Nat) ++ L ++ hi' = L ++ hi' ++ [] by simp, u64s_mid L hi' [] 4 j hL4 (by omega)]
      rintro e w2 ⟨L, c, rfl, hcM, hL, hb2, hg2⟩
      obtain ⟨hL1, hL2, _, hLv⟩ := hL
      have hL4 : L.length = 4 := hL1.trans hlo4
      have hv1 := val_lt lo hloA
      have hv2 := val_lt hi' hhiA
      have hv3 := val_lt L hL2
      rw [hlo4] at hv1
      rw [hhi4] at hv2
      rw [hL4] at hv3
      obtain ⟨hc38, hres⟩ := times_arith hv1 hv2 hv3 hLv
      rw [hwv.out] at hres
      have HRES := Lib.hid hres
      have HB2 := Lib.hid hb2
      have HG2 := Lib.hid hg2
      have hpr2 : Hid (PrimeAt w2) := Lib.hid (PrimeAt.grown (HPr.out.drewN _) hg2 (by have := HP.out.1; omega))
      have h72 : Hid (Blk w2 w.heap.size 26 (u64s [0, 0, 0, 0])) := Lib.hid (Blk.grown (H7.out.drewN _) hg2 (by intro e; injection e with e; omega))
      have h62 : Hid (Below w.heap.size w w2) := Lib.hid (Below.grown (H6.out.trans ((Drew.below ⟨_, rfl⟩ : Below wr.heap.size wr (wr.drewN _)).mono H6.out.size)) hg2 (by have := H6.out.size; exact this) (fun k hk => by injection hk with hk; omega))
      clear hres hb2 hg2 hLv hL1 hv1 hv2 hv3
      go_wp2_with fail
      refine (fold_any (w.heap.size + 1) 0 66 c [] L hi' w2 HB2.out rfl hL4 hL2 (by have := HP.out.1; omega) hpr2.out (by omega)).mono ?_
      rintro e w3 ⟨rfl, hb3, hg3⟩
      rw [HRES.out] at hb3
      obtain ⟨R, hR⟩ : ∃ R, Hid (R = u64s (digs M (val M A * val M B % P) 4)) := ⟨_, Lib.hid rfl⟩
      have hRs : Hid ((Tryd.prog.info? 26).map (·.size) = some R.size) := by show _ = _; rw [hR.out, u64s_size, digs_length]; exact info4
      have hR1 : Hid (R.all (·.oneCell') = true) := by show _ = _; rw [hR.out]; exact u64s_one _
      have hRc : Hid (∀ j v, R[j]? = some v → w3.cell? ⟨w.heap.size + 1, 0 + j, none⟩ = some v) := Lib.hid (by
        intro j v hj
        rw [hR.out] at hj
        have hj4 : j < 4 := by have := (Array.getElem?_eq_some_iff.1 hj).1; rwa [u64s_size, digs_length] at this
        rw [hb3.cell, List.nil_append, show digs M (val M A * val M B % P) 4 ++ hi' = [] ++ digs M (val M A * val M B % P) 4 ++ hi' by simp, u64s_mid [] _ hi' 0 j rfl (by rw [digs_length]; exact hj4), ← hj, u64s_get _ _ (by rw [digs_length]; exact hj4)])
      have h73 : Hid (Blk w3 w.heap.size 26 (u64s [0, 0, 0, 0])) := Lib.hid (h72.out.grown hg3 (by intro e; injection e with e; omega))
      have hzz : Hid ((u64s [0, 0, 0, 0]).size = R.size) := by show _ = _; rw [hR.out, u64s_size, u64s_size, digs_length]; rfl
      have h63 : Hid (Below w.heap.size w w3) := Lib.hid (h62.out.grown hg3 h62.out.size (fun k hk => by injection hk with hk; omega))
      clear hb3 hg3
      go_wp2_with (first | (refine wpList_load_at rfl 26 (.tmp 38) rfl (w.heap.size + 1) 0 rfl 23 4 R Tryd.underlying26 hRs.out hRc.out ?_) |
        (refine wpList_store_row rfl 26 (.tmp 4) (.tmp 39) rfl w.heap.size R rfl rfl 26 _ h73.out hRs.out hzz.out hR1.out ?_))
      refine bodyPost_ret (v := .agg R) ?_ rfl ⟨by rw [hR.out], below_row h63.out (Nat.le_refl _) _⟩
      exact results_cell_row Tryd.results34 _ _ w.heap.size 26 R (0, 0) _ rfl (h73.out.row R) Tryd.underlying26 rfl hRs.out
end Go.Proofs.YtphlehinjooncaaDoor
