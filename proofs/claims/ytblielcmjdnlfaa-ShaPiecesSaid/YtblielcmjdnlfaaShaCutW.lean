/-
  The walk of the law ShaCut. No conditions.
-/
import Derived.Test.YtblielcmjdnlfaaShaRowsW
import Derived.ChangeKeysEq
set_option linter.unusedVariables false
set_option linter.unusedSimpArgs false
namespace Go.Proofs.Ytblielcmjdnlfaa
open Go Go.Proofs Go.RowKit Sha5

theorem eqItems_same (d : Nat) (l : List UInt8) (w : World) : ∀ is : List Nat, (∀ i ∈ is, i < l.length) → (Op.eqItems (d + 1) 5 1 (bytesA l) (bytesA l) is).run Try.prog w = .ok true w
  | [], _ => by simp [Op.eqItems]
  | i :: is, h => by
    have hi := h i (by simp)
    have hx : (bytesA l)[i * 1]? = some (.int .u8 (l[i].toNat : Int)) := by
      rw [Nat.mul_one, bytesA, List.getElem?_toArray]
      simp [Lib.byteCells, hi]
    have hp := run_part_plain (P := Try.prog) w (e := 5) (by kernel_rfl) hx
    simp only [Op.eqItems, Sem.run_bind, hp, Result.andThen_ok, run_equalIn_int w d 5 .u8 .u8 _ _ Try.underlying5]
    simpa using eqItems_same d l w is (fun j hj => h j (by simp [hj]))
theorem run_eq_row (l : List UInt8) (hl : l.length = 64) (w : World) : (binOp .eql 25 (.agg (bytesA l)) (.agg (bytesA l))).run Try.prog w = .ok (.bool true) w := by
  obtain ⟨i0, hi, _⟩ := info_parts infoByte
  rw [run_eql_struct, run_equalIn_array w 9999 (bytesA l) (bytesA l) Try.underlying25 hi]
  have hc : Try.prog.cellsOf 5 = 1 := by kernel_rfl
  rw [hc, eqItems_same 9998 l w _ (fun i h => by rw [hl]; exact List.mem_range.1 h)]
  rfl
theorem quiet_eq_row {o : Oper} {ev : Operand → Value} (w : World) (x y : Operand) (k : TypeId) (l : List UInt8) (hl : l.length = 64) (hx : ev x = .agg (bytesA l)) (hy : ev y = .agg (bytesA l))
    (ho : o.op = .binOp .eql 25 x y k) : (execOp ev o).run Try.prog w = .ok (.value (.bool true)) w := by
  have hg : (eqGuard .eql 25 x y (.agg (bytesA l)) (.agg (bytesA l))).run Try.prog w = .ok () w := run_eqGuard_agg w .eql _ x y _ _ (by kernel_rfl)
  unfold execOp
  simp only [ho, hx, hy, Sem.run_bind, hg, Result.andThen_ok, run_eq_row l hl w, Sem.run_pure]

theorem Reads.front {w : World} {B n : Nat} {A : Option Addr} {l : List UInt8} (h : Reads w B 1 A n (Lib.byteCells l)) {k : Nat} (hk : k ≤ n) : Reads w B 1 A k (Lib.byteCells (l.take k)) := by
  have hl : l.length = n := by have := h.1; simpa [Lib.byteCells_length] using this
  refine ⟨by simp [Lib.byteCells_length]; omega, fun hp => ?_⟩
  obtain ⟨ad, e, h1, h2⟩ := h.2 (by omega)
  refine ⟨ad, e, h1, fun j u hj => h2 j u ?_⟩
  rw [byteCells_take, List.getElem?_take] at hj
  split at hj
  · exact hj
  · cases hj

theorem Reads.wider {w w' : World} {B B' n : Nat} {A : Option Addr} {xs : List Value} (h : Reads w B 1 A n xs) (hB : B ≤ B') (hk : ∀ p : Addr, p.block < B → w'.cell? p = w.cell? p) : Reads w' B' 1 A n xs :=
  ⟨h.1, fun hn => by
    obtain ⟨ad, e, h1, h2⟩ := h.2 hn
    exact ⟨ad, e, by omega, fun j u hj => by rw [hk _ (by rw [block_of_add]; exact h1)]; exact h2 j u hj⟩⟩
theorem rows_one {w : World} {B g n c : Nat} {A : Option Addr} {l : List UInt8} (hg : g < B) (h0 : w.cell? ⟨g, 0, none⟩ = some (.slice A n c)) (hr : Reads w B 1 A n (Lib.byteCells l)) (hnc : n ≤ c) : RowsR w B (some ⟨g, 0, none⟩) 1 [l] :=
  ⟨rfl, fun i hi => by
    obtain rfl : i = 0 := by omega
    exact ⟨_, A, n, c, rfl, hg, h0, hr, hnc⟩⟩
theorem rows_two {w : World} {B g n c n' c' : Nat} {A A' : Option Addr} {l l' : List UInt8} (hg : g < B) (h0 : w.cell? ⟨g, 0, none⟩ = some (.slice A n c)) (h1 : w.cell? ⟨g, 1, none⟩ = some (.slice A' n' c'))
    (hr : Reads w B 1 A n (Lib.byteCells l)) (hnc : n ≤ c) (hr' : Reads w B 1 A' n' (Lib.byteCells l')) (hnc' : n' ≤ c') : RowsR w B (some ⟨g, 0, none⟩) 2 [l, l'] :=
  ⟨rfl, fun i hi => by
    rcases (by omega : i = 0 ∨ i = 1) with rfl | rfl
    · exact ⟨_, A, n, c, rfl, hg, h0, hr, hnc⟩
    · exact ⟨_, A', n', c', rfl, hg, h1, hr', hnc'⟩⟩

set_option maxHeartbeats 4000000 in
set_option maxRecDepth 100000 in
theorem cut_walk (A : Option Addr) (n c : Nat) (q : Int) (l : List UInt8) (w : World) (hr : Reads w w.heap.size 1 A n (Lib.byteCells l)) (hnc : n ≤ c) (hm : c ≤ maxLen) (hq1 : -9223372036854775808 ≤ q) (hq2 : q ≤ 9223372036854775807) :
    Calls Try.prog 6 #[.slice A n c, .int .i64 q] w fun e w' => e = .returned (.bool true) ∧ Below w.heap.size w w' := by
  unfold maxLen at hm
  by_cases hbig : 2000 < n
  · have h1 : decide (2000 < (n : Int)) = true := by simp; omega
    go_enter Try.func6, Try.ntmps6
    go_wp2_with fail
    refine (awake4_any _).mono ?_
    rintro e w1 ⟨rfl, hb1⟩
    go_wp2
    go_ret
    exact ⟨rfl, hb1⟩
  by_cases hneg : q < 0
  · have h1 : decide (2000 < (n : Int)) = false := by simp; omega
    have h2 : decide (q < 0) = true := by simp; omega
    go_enter Try.func6, Try.ntmps6
    go_wp2_with fail
    refine (awake4_any _).mono ?_
    rintro e w1 ⟨rfl, hb1⟩
    go_wp2
    go_ret
    exact ⟨rfl, hb1⟩
  by_cases hfar : (n : Int) < q
  · have h1 : decide (2000 < (n : Int)) = false := by simp; omega
    have h2 : decide (q < 0) = false := by simp; omega
    have h3 : decide ((n : Int) < q) = true := by simp; omega
    go_enter Try.func6, Try.ntmps6
    go_wp2_with fail
    refine (awake4_any _).mono ?_
    rintro e w1 ⟨rfl, hb1⟩
    go_wp2
    go_ret
    exact ⟨rfl, hb1⟩
  obtain ⟨k, rfl⟩ : ∃ k : Nat, q = (k : Int) := ⟨q.toNat, by omega⟩
  have h1 : decide (2000 < (n : Int)) = false := by simp; omega
  have h2 : decide ((k : Int) < 0) = false := by simp
  have h3 : decide ((n : Int) < (k : Int)) = false := by simp; omega
  have hk : k ≤ n := by omega
  obtain ⟨z, hz⟩ : ∃ z, Hid (z = (Array.replicate 64 (Value.int .u8 0))) := ⟨_, Lib.hid rfl⟩
  have hz0 : ∀ W, (zeroValue 25).run Try.prog W = .ok (.agg z) W := by
    rw [hz.out]; exact (zero_of_info (n := 64) (by kernel_rfl)).1
  have hzs : Hid (z.size = 64) := by show _ = _; rw [hz.out]; simp
  obtain ⟨R, hR⟩ : ∃ R, Hid (R = bytesA (sumOf l)) := ⟨_, Lib.hid rfl⟩
  have hbs : Hid ((Try.prog.info? 25).map (·.size) = some R.size) := by
    show _ = _; rw [hR.out, bytesA_size, sumOf_length]; exact info25
  have hb1 : Hid (R.all (·.oneCell') = true) := by show _ = _; rw [hR.out]; exact bytesA_one _
  have hzz : Hid (z.size = R.size) := by show _ = _; rw [hzs.out, hR.out, bytesA_size, sumOf_length]
  have hal : Try.prog.arrayLen 25 = 64 := by kernel_rfl
  have hel : Try.prog.elem 25 = 5 := by kernel_rfl
  obtain ⟨S0, hS0⟩ : ∃ S0 : ByteArray, Hid (S0 = ⟨(sumOf l).toArray⟩) := ⟨_, Lib.hid rfl⟩
  have hln : l.length = n := by have := hr.1; simpa [Lib.byteCells_length] using this
  have HF := Lib.hid (hr.front hk)
  have hcut := hr.cut hk hnc
  rw [Nat.mul_one, ← byteCells_drop] at hcut
  have HR := Lib.hid hr
  have HTD : Hid (l.take k ++ l.drop k = l) := Lib.hid (List.take_append_drop k l)
  clear hr
  by_cases hck : c = k
  · obtain rfl := hck
    have hn0 : n - c = 0 := by omega
    rw [if_pos rfl, hn0] at hcut
    have HT := Lib.hid hcut
    clear hcut
    go_enter Try.func6, Try.ntmps6
    go_wp2_with fail
    refine (new_any _).mono ?_
    rintro e w1 ⟨g, rfl, hg1, hH1, hbel1⟩
    have HB1 := Lib.hid hbel1
    have HW1 := Lib.hid (write_any g [] (l.take c) A c c w1 hH1 (src_reads ((HF.out).keep (fun p hp => hbel1.cell hp)) hg1 hbel1.size) (by omega) (by simp; omega))
    clear hH1 hbel1
    go_wp2_with fail
    refine HW1.out.mono ?_
    rintro e w2 ⟨rfl, hH2, hgr2⟩
    have hb2 := HB1.out.grown hgr2 HB1.out.size (by intro j hj; injection hj with hj; omega)
    rw [List.nil_append] at hH2
    have HB2 := Lib.hid hb2
    have HW2 := Lib.hid (write_any g (l.take c) (l.drop c) A 0 0 w2 hH2 (src_reads ((HT.out).keep (fun p hp => hb2.cell hp)) hg1 hb2.size) (by omega) (by simp; omega))
    clear hH2 hgr2 hb2
    go_wp2_with fail
    refine HW2.out.mono ?_
    rintro e w3 ⟨rfl, hH3, hgr3⟩
    have hb3 := HB2.out.grown hgr3 HB2.out.size (by intro j hj; injection hj with hj; omega)
    rw [HTD.out] at hH3
    have HS := Lib.hid (sum_any g l w3 hH3 (by omega))
    rw [← hR.out] at HS
    clear hH3 hgr3
    go_wp2_with fail
    refine HS.out.mono ?_
    rintro e w4 ⟨rfl, hb4⟩
    have hbel := hb3.trans (hb4.mono hb3.size)
    clear hb3 hb4
    go_wp2_with (first | (refine wpList_store_row rfl 25 (.tmp 6) (.tmp 33) rfl w4.heap.size R rfl rfl 25 z (heap_alloc_new w4 _) hbs.out hzz.out hb1.out ?_; rw [setRow_alloc1]))
    have hBk : Blk (w4.alloc (.cells R 25)) w4.heap.size 25 R := Blk.new _ _ _
    have hbel2 := hbel.alloc hbel.size (.cells R 25)
    obtain ⟨g2, hg2⟩ : ∃ g, g = w4.heap.size := ⟨_, rfl⟩
    rw [← hg2] at hBk ⊢
    generalize w4.alloc (.cells R 25) = w5 at *
    have HK : Hid (∀ W, Below w5.heap.size w5 W → Blk W g2 25 R ∧ (convert 27 9 (.slice (some ⟨g2, 0, none⟩) 64 64)).run Try.prog W = .ok (.string S0) W) :=
      Lib.hid fun W h => ⟨hBk.old h, by rw [hS0.out]; exact back_of_blk (by rw [← hR.out]; exact hBk.old h) (sumOf_length _)⟩
    have HB5 := Lib.hid hbel2
    have hws := hbel2.size
    clear hBk hbel2 hbel hg2 hz0
    have hdr : Below w5.heap.size w5 w5.drew := (Below.refl _ _).drew
    refine wp_region_held_drew (S := fun W => Blk W g2 25 R ∧ (convert 27 9 (.slice (some ⟨g2, 0, none⟩) 64 64)).run Try.prog W = .ok (.string S0) W) (by kernel_rfl) (HK.out _ hdr) (fun hHeld => ?_)
    have HD := Lib.hid hdr
    clear hdr
    generalize w5.drew = w6 at *
    (try simp only [Act.put, List.setIfInBounds_toArray, List.set_cons_zero, List.set_cons_succ])
    have hRv : Hid ((Value.agg R) = .agg (bytesA (sumOf l))) := by show _ = _; rw [hR.out]
    refine' wpAnyH_take (i := 0) (oi := _) (v := .agg R) ?hit0 ?hst0 ?hft0 ?hrt0 ?hQt0 ?hyt0 ?hSt0 ?_
    case hit0 => (simp only [List.getElem?_toArray, List.getElem?_cons_succ, List.getElem?_cons_zero]; rfl)
    case hst0 => kernel_rfl
    case hft0 => kernel_rfl
    case hrt0 => kernel_rfl
    case hQt0 => exact fun _ _ _ h => h
    case hSt0 => assumption
    case hyt0 =>
      refine Or.inl ⟨by rfl, ?_⟩
      intro W hS
      exact quiet_load_row 25 (.tmp 6) g2 rfl 25 R _ hS.1 Try.underlying25 rfl hbs.out rfl
    (try simp only [Act.put, List.setIfInBounds_toArray, List.set_cons_zero, List.set_cons_succ])
    refine' wpAnyH_take (i := 1) (oi := _) (v := _) ?hit1 ?hst1 ?hft1 ?hrt1 ?hQt1 ?hyt1 ?hSt1 ?_
    case hit1 => (simp only [List.getElem?_toArray, List.getElem?_cons_succ, List.getElem?_cons_zero]; rfl)
    case hst1 => kernel_rfl
    case hft1 => kernel_rfl
    case hrt1 => kernel_rfl
    case hQt1 => exact fun _ _ _ h => h
    case hSt1 => assumption
    case hyt1 =>
      refine Or.inl ⟨by rfl, ?_⟩
      intro w hSw
      (obtain ⟨_, hSc⟩ := hSw)
      go_simp
      all_goals (with_reducible rfl)
    (try simp only [Act.put, List.setIfInBounds_toArray, List.set_cons_zero, List.set_cons_succ])
    refine wpAnyH_ready (rs := [2]) (by kernel_rfl) (by simp) ?_
    refine' AllReadyH.cons (o := _) ?hir2 (fun K hK => ?_) AllReadyH.nil
    case hir2 => (simp only [List.getElem?_toArray, List.getElem?_cons_succ, List.getElem?_cons_zero]; rfl)
    go_simp
    refine hK.out _ _ ?_ (fun hHeld => ?_)
    · exact HK.out _ (HD.out.alloc HD.out.size _)
    clear hK K
    (try simp only [Act.put, List.setIfInBounds_toArray, List.set_cons_zero, List.set_cons_succ])
    have hb7 := HD.out.alloc HD.out.size (.cells #[.slice A n c] 27)
    have hr7 : Blk (w6.alloc (.cells #[.slice A n c] 27)) w6.heap.size 27 #[.slice A n c] := Blk.new _ _ _
    obtain ⟨g7, hg7⟩ : ∃ g, g = w6.heap.size := ⟨_, rfl⟩
    rw [← hg7] at hr7 ⊢
    generalize w6.alloc (.cells #[.slice A n c] 27) = w7 at *
    have hw7 := HB5.out.trans (hb7.mono HB5.out.size)
    have HR7 : Hid (RowsR w7 w7.heap.size (some ⟨g7, 0, none⟩) 1 [l]) := Lib.hid (rows_one hr7.lt (by rw [hr7.cell]; rfl) (HR.out.wider hw7.size (fun p hp => hw7.cell hp)) hnc)
    have HD7 := Lib.hid hb7
    clear hb7 hr7 hg7 hw7
    refine wpAnyH_ready (rs := [3]) (by kernel_rfl) (by simp) ?_
    refine' AllReadyH.cons (o := _) ?hir3 (fun K hK => ?_) AllReadyH.nil
    case hir3 => (simp only [List.getElem?_toArray, List.getElem?_cons_succ, List.getElem?_cons_zero]; rfl)
    go_simp
    refine (of_any _ 1 1 _ [l] w7 HR7.out (Nat.le_refl _) (by simp; omega) (by omega)).mono ?_
    rintro e w8 ⟨rfl, hb8⟩
    rw [show [l].flatten = l from by simp, ← hR.out]
    have HD8 := Lib.hid (HD7.out.trans (hb8.mono HD7.out.size))
    clear hb8
    go_wp2_with fail
    refine hK.out _ _ ?_ (fun hHeld => ?_)
    · exact HK.out _ HD8.out
    clear hK K
    (try simp only [Act.put, List.setIfInBounds_toArray, List.set_cons_zero, List.set_cons_succ])
    refine' wpAnyH_take (i := 4) (oi := _) (v := .bool true) ?hit4 ?hst4 ?hft4 ?hrt4 ?hQt4 ?hyt4 ?hSt4 ?_
    case hit4 => (simp only [List.getElem?_toArray, List.getElem?_cons_succ, List.getElem?_cons_zero]; rfl)
    case hst4 => kernel_rfl
    case hft4 => kernel_rfl
    case hrt4 => kernel_rfl
    case hQt4 => exact fun _ _ _ h => h
    case hSt4 => assumption
    case hyt4 =>
      refine Or.inl ⟨by rfl, ?_⟩
      intro W hS
      exact quiet_eq_row W (.tmp 34) (.tmp 37) 25 (sumOf l) (sumOf_length _) hRv.out hRv.out rfl
    (try simp only [Act.put, List.setIfInBounds_toArray, List.set_cons_zero, List.set_cons_succ])
    refine' wpAnyH_take (i := 5) (oi := _) (v := _) ?hit5 ?hst5 ?hft5 ?hrt5 ?hQt5 ?hyt5 ?hSt5 ?_
    case hit5 => (simp only [List.getElem?_toArray, List.getElem?_cons_succ, List.getElem?_cons_zero]; rfl)
    case hst5 => kernel_rfl
    case hft5 => kernel_rfl
    case hrt5 => kernel_rfl
    case hQt5 => exact fun _ _ _ h => h
    case hSt5 => assumption
    case hyt5 =>
      refine Or.inl ⟨by rfl, ?_⟩
      intro w hSw
      (obtain ⟨_, hSc⟩ := hSw)
      go_simp
      all_goals (with_reducible rfl)
    (try simp only [Act.put, List.setIfInBounds_toArray, List.set_cons_zero, List.set_cons_succ])
    refine' wpAnyH_take (i := 6) (oi := _) (v := .agg R) ?hit6 ?hst6 ?hft6 ?hrt6 ?hQt6 ?hyt6 ?hSt6 ?_
    case hit6 => (simp only [List.getElem?_toArray, List.getElem?_cons_succ, List.getElem?_cons_zero]; rfl)
    case hst6 => kernel_rfl
    case hft6 => kernel_rfl
    case hrt6 => kernel_rfl
    case hQt6 => exact fun _ _ _ h => h
    case hSt6 => assumption
    case hyt6 =>
      refine Or.inl ⟨by rfl, ?_⟩
      intro W hS
      exact quiet_load_row 25 (.tmp 6) g2 rfl 25 R _ hS.1 Try.underlying25 rfl hbs.out rfl
    (try simp only [Act.put, List.setIfInBounds_toArray, List.set_cons_zero, List.set_cons_succ])
    refine' wpAnyH_take (i := 7) (oi := _) (v := _) ?hit7 ?hst7 ?hft7 ?hrt7 ?hQt7 ?hyt7 ?hSt7 ?_
    case hit7 => (simp only [List.getElem?_toArray, List.getElem?_cons_succ, List.getElem?_cons_zero]; rfl)
    case hst7 => kernel_rfl
    case hft7 => kernel_rfl
    case hrt7 => kernel_rfl
    case hQt7 => exact fun _ _ _ h => h
    case hSt7 => assumption
    case hyt7 =>
      refine Or.inl ⟨by rfl, ?_⟩
      intro w hSw
      (obtain ⟨_, hSc⟩ := hSw)
      go_simp
      all_goals (with_reducible rfl)
    (try simp only [Act.put, List.setIfInBounds_toArray, List.set_cons_zero, List.set_cons_succ])
    refine' wpAnyH_take (i := 8) (oi := _) (v := _) ?hit8 ?hst8 ?hft8 ?hrt8 ?hQt8 ?hyt8 ?hSt8 ?_
    case hit8 => (simp only [List.getElem?_toArray, List.getElem?_cons_succ, List.getElem?_cons_zero]; rfl)
    case hst8 => kernel_rfl
    case hft8 => kernel_rfl
    case hrt8 => kernel_rfl
    case hQt8 => exact fun _ _ _ h => h
    case hSt8 => assumption
    case hyt8 =>
      refine Or.inl ⟨by rfl, ?_⟩
      intro w hSw
      (obtain ⟨_, hSc⟩ := hSw)
      go_simp
      all_goals (with_reducible rfl)
    (try simp only [Act.put, List.setIfInBounds_toArray, List.set_cons_zero, List.set_cons_succ])
    refine' wpAnyH_take (i := 9) (oi := _) (v := _) ?hit9 ?hst9 ?hft9 ?hrt9 ?hQt9 ?hyt9 ?hSt9 ?_
    case hit9 => (simp only [List.getElem?_toArray, List.getElem?_cons_succ, List.getElem?_cons_zero]; rfl)
    case hst9 => kernel_rfl
    case hft9 => kernel_rfl
    case hrt9 => kernel_rfl
    case hQt9 => exact fun _ _ _ h => h
    case hSt9 => assumption
    case hyt9 =>
      refine Or.inl ⟨by rfl, ?_⟩
      intro w hSw
      (obtain ⟨_, hSc⟩ := hSw)
      go_simp
      all_goals (with_reducible rfl)
    (try simp only [Act.put, List.setIfInBounds_toArray, List.set_cons_zero, List.set_cons_succ])
    refine' wpAnyH_take (i := 10) (oi := _) (v := _) ?hit10 ?hst10 ?hft10 ?hrt10 ?hQt10 ?hyt10 ?hSt10 ?_
    case hit10 => (simp only [List.getElem?_toArray, List.getElem?_cons_succ, List.getElem?_cons_zero]; rfl)
    case hst10 => kernel_rfl
    case hft10 => kernel_rfl
    case hrt10 => kernel_rfl
    case hQt10 => exact fun _ _ _ h => h
    case hSt10 => assumption
    case hyt10 =>
      refine Or.inl ⟨by rfl, ?_⟩
      intro w hSw
      (obtain ⟨_, hSc⟩ := hSw)
      go_simp
      all_goals (with_reducible rfl)
    (try simp only [Act.put, List.setIfInBounds_toArray, List.set_cons_zero, List.set_cons_succ])
    refine' wpAnyH_take (i := 11) (oi := _) (v := _) ?hit11 ?hst11 ?hft11 ?hrt11 ?hQt11 ?hyt11 ?hSt11 ?_
    case hit11 => (simp only [List.getElem?_toArray, List.getElem?_cons_succ, List.getElem?_cons_zero]; rfl)
    case hst11 => kernel_rfl
    case hft11 => kernel_rfl
    case hrt11 => kernel_rfl
    case hQt11 => exact fun _ _ _ h => h
    case hSt11 => assumption
    case hyt11 =>
      refine Or.inl ⟨by rfl, ?_⟩
      intro w hSw
      (obtain ⟨_, hSc⟩ := hSw)
      go_simp
      all_goals (with_reducible rfl)
    (try simp only [Act.put, List.setIfInBounds_toArray, List.set_cons_zero, List.set_cons_succ])
    refine' wpAnyH_take (i := 12) (oi := _) (v := _) ?hit12 ?hst12 ?hft12 ?hrt12 ?hQt12 ?hyt12 ?hSt12 ?_
    case hit12 => (simp only [List.getElem?_toArray, List.getElem?_cons_succ, List.getElem?_cons_zero]; rfl)
    case hst12 => kernel_rfl
    case hft12 => kernel_rfl
    case hrt12 => kernel_rfl
    case hQt12 => exact fun _ _ _ h => h
    case hSt12 => assumption
    case hyt12 =>
      refine Or.inl ⟨by rfl, ?_⟩
      intro w hSw
      (obtain ⟨_, hSc⟩ := hSw)
      go_simp
      all_goals (with_reducible rfl)
    (try simp only [Act.put, List.setIfInBounds_toArray, List.set_cons_zero, List.set_cons_succ])
    refine wpAnyH_ready (rs := [13]) (by kernel_rfl) (by simp) ?_
    refine' AllReadyH.cons (o := _) ?hir13 (fun K hK => ?_) AllReadyH.nil
    case hir13 => (simp only [List.getElem?_toArray, List.getElem?_cons_succ, List.getElem?_cons_zero]; rfl)
    go_simp
    refine hK.out _ _ ?_ (fun hHeld => ?_)
    · exact HK.out _ (HD8.out.alloc HD8.out.size _)
    clear hK K
    (try simp only [Act.put, List.setIfInBounds_toArray, List.set_cons_zero, List.set_cons_succ])
    have hb9 := HD8.out.alloc HD8.out.size (.cells #[.slice A c c, .slice A 0 0] 27)
    have hr9 : Blk (w8.alloc (.cells #[.slice A c c, .slice A 0 0] 27)) w8.heap.size 27 #[.slice A c c, .slice A 0 0] := Blk.new _ _ _
    obtain ⟨g9, hg9⟩ : ∃ g, g = w8.heap.size := ⟨_, rfl⟩
    rw [← hg9] at hr9 ⊢
    generalize w8.alloc (.cells #[.slice A c c, .slice A 0 0] 27) = w9 at *
    have hw9 := HB5.out.trans (hb9.mono HB5.out.size)
    have HR9 : Hid (RowsR w9 w9.heap.size (some ⟨g9, 0, none⟩) 2 [l.take c, l.drop c]) := Lib.hid (rows_two hr9.lt (by rw [hr9.cell]; rfl) (by rw [hr9.cell]; rfl) (HF.out.wider hw9.size (fun p hp => hw9.cell hp)) (by omega) (HT.out.wider hw9.size (fun p hp => hw9.cell hp)) (by omega))
    have HD9 := Lib.hid hb9
    clear hb9 hr9 hg9 hw9
    refine wpAnyH_ready (rs := [14]) (by kernel_rfl) (by simp) ?_
    refine' AllReadyH.cons (o := _) ?hir14 (fun K hK => ?_) AllReadyH.nil
    case hir14 => (simp only [List.getElem?_toArray, List.getElem?_cons_succ, List.getElem?_cons_zero]; rfl)
    go_simp
    refine (of_any _ 2 2 _ [l.take c, l.drop c] w9 HR9.out (Nat.le_refl _) (by rw [show [l.take c, l.drop c].flatten = l from by simp]; omega) (by omega)).mono ?_
    rintro e w10 ⟨rfl, hb10⟩
    rw [show [l.take c, l.drop c].flatten = l from by simp, ← hR.out]
    have HD10 := Lib.hid (HD9.out.trans (hb10.mono HD9.out.size))
    clear hb10
    go_wp2_with fail
    refine hK.out _ _ ?_ (fun hHeld => ?_)
    · exact HK.out _ HD10.out
    clear hK K
    (try simp only [Act.put, List.setIfInBounds_toArray, List.set_cons_zero, List.set_cons_succ])
    refine' wpAnyH_take (i := 15) (oi := _) (v := .bool true) ?hit15 ?hst15 ?hft15 ?hrt15 ?hQt15 ?hyt15 ?hSt15 ?_
    case hit15 => (simp only [List.getElem?_toArray, List.getElem?_cons_succ, List.getElem?_cons_zero]; rfl)
    case hst15 => kernel_rfl
    case hft15 => kernel_rfl
    case hrt15 => kernel_rfl
    case hQt15 => exact fun _ _ _ h => h
    case hSt15 => assumption
    case hyt15 =>
      refine Or.inl ⟨by rfl, ?_⟩
      intro W hS
      exact quiet_eq_row W (.tmp 40) (.tmp 48) 25 (sumOf l) (sumOf_length _) hRv.out hRv.out rfl
    (try simp only [Act.put, List.setIfInBounds_toArray, List.set_cons_zero, List.set_cons_succ])
    refine' wpAnyH_take (i := 16) (oi := _) (v := _) ?hit16 ?hst16 ?hft16 ?hrt16 ?hQt16 ?hyt16 ?hSt16 ?_
    case hit16 => (simp only [List.getElem?_toArray, List.getElem?_cons_succ, List.getElem?_cons_zero]; rfl)
    case hst16 => kernel_rfl
    case hft16 => kernel_rfl
    case hrt16 => kernel_rfl
    case hQt16 => exact fun _ _ _ h => h
    case hSt16 => assumption
    case hyt16 =>
      refine Or.inl ⟨by rfl, ?_⟩
      intro w hSw
      (obtain ⟨_, hSc⟩ := hSw)
      go_simp
      all_goals (with_reducible rfl)
    (try simp only [Act.put, List.setIfInBounds_toArray, List.set_cons_zero, List.set_cons_succ])
    refine' wpAnyH_take (i := 17) (oi := _) (v := _) ?hit17 ?hst17 ?hft17 ?hrt17 ?hQt17 ?hyt17 ?hSt17 ?_
    case hit17 => (simp only [List.getElem?_toArray, List.getElem?_cons_succ, List.getElem?_cons_zero]; rfl)
    case hst17 => kernel_rfl
    case hft17 => kernel_rfl
    case hrt17 => kernel_rfl
    case hQt17 => exact fun _ _ _ h => h
    case hSt17 => assumption
    case hyt17 =>
      refine Or.inl ⟨by rfl, ?_⟩
      intro w hSw
      (obtain ⟨_, hSc⟩ := hSw)
      go_simp
      all_goals (with_reducible rfl)
    (try simp only [Act.put, List.setIfInBounds_toArray, List.set_cons_zero, List.set_cons_succ])
    refine' wpAnyH_take (i := 18) (oi := _) (v := _) ?hit18 ?hst18 ?hft18 ?hrt18 ?hQt18 ?hyt18 ?hSt18 ?_
    case hit18 => (simp only [List.getElem?_toArray, List.getElem?_cons_succ, List.getElem?_cons_zero]; rfl)
    case hst18 => kernel_rfl
    case hft18 => kernel_rfl
    case hrt18 => kernel_rfl
    case hQt18 => exact fun _ _ _ h => h
    case hSt18 => assumption
    case hyt18 =>
      refine Or.inl ⟨by rfl, ?_⟩
      intro w hSw
      (obtain ⟨_, hSc⟩ := hSw)
      go_simp
      all_goals (with_reducible rfl)
    (try simp only [Act.put, List.setIfInBounds_toArray, List.set_cons_zero, List.set_cons_succ])
    refine' wpAnyH_take (i := 19) (oi := _) (v := _) ?hit19 ?hst19 ?hft19 ?hrt19 ?hQt19 ?hyt19 ?hSt19 ?_
    case hit19 => (simp only [List.getElem?_toArray, List.getElem?_cons_succ, List.getElem?_cons_zero]; rfl)
    case hst19 => kernel_rfl
    case hft19 => kernel_rfl
    case hrt19 => kernel_rfl
    case hQt19 => exact fun _ _ _ h => h
    case hSt19 => assumption
    case hyt19 =>
      refine Or.inl ⟨by rfl, ?_⟩
      intro w hSw
      (obtain ⟨_, hSc⟩ := hSw)
      go_simp
      all_goals (with_reducible rfl)
    (try simp only [Act.put, List.setIfInBounds_toArray, List.set_cons_zero, List.set_cons_succ])
    refine' wpAnyH_take (i := 20) (oi := _) (v := _) ?hit20 ?hst20 ?hft20 ?hrt20 ?hQt20 ?hyt20 ?hSt20 ?_
    case hit20 => (simp only [List.getElem?_toArray, List.getElem?_cons_succ, List.getElem?_cons_zero]; rfl)
    case hst20 => kernel_rfl
    case hft20 => kernel_rfl
    case hrt20 => kernel_rfl
    case hQt20 => exact fun _ _ _ h => h
    case hSt20 => assumption
    case hyt20 =>
      refine Or.inl ⟨by rfl, ?_⟩
      intro w hSw
      (obtain ⟨_, hSc⟩ := hSw)
      go_simp
      all_goals (with_reducible rfl)
    (try simp only [Act.put, List.setIfInBounds_toArray, List.set_cons_zero, List.set_cons_succ])
    refine wpAnyH_ready (rs := [21]) (by kernel_rfl) (by simp) ?_
    refine' AllReadyH.cons (o := _) ?hir21 (fun K hK => ?_) AllReadyH.nil
    case hir21 => (simp only [List.getElem?_toArray, List.getElem?_cons_succ, List.getElem?_cons_zero]; rfl)
    go_simp
    refine (refSum_any A n c _ l _ (HR.out.wider (HB5.out.trans (HD10.out.mono HB5.out.size)).size (fun p hp => (HB5.out.trans (HD10.out.mono HB5.out.size)).cell hp)) (by omega) (Nat.le_refl _)).mono ?_
    rintro e w11 ⟨v11, rfl, ho11, hb11⟩
    obtain ⟨A11, c11, rfl, hc11⟩ := own_form_cap ho11
    have HD11 := Lib.hid (HD10.out.trans (hb11.mono HD10.out.size))
    have kf := run_back (Reads.of_own ho11) (c := c11)
    rw [sumOf_length] at kf ⊢
    rw [← hS0.out] at kf
    clear ho11 hb11 hc11
    go_wp2_with fail
    refine hK.out _ _ ?_ (fun hHeld => ?_)
    · exact HK.out _ HD11.out
    clear hK K
    (try simp only [Act.put, List.setIfInBounds_toArray, List.set_cons_zero, List.set_cons_succ])
    refine wpAnyH_ready (rs := [22]) (by kernel_rfl) (by simp) ?_
    refine' AllReadyH.cons (o := _) ?hir22 (fun K hK => ?_) AllReadyH.nil
    case hir22 => (simp only [List.getElem?_toArray, List.getElem?_cons_succ, List.getElem?_cons_zero]; rfl)
    go_simp
    refine hK.out _ _ ?_ (fun hHeld => ?_)
    · exact HK.out _ HD11.out
    clear hK K
    (try simp only [Act.put, List.setIfInBounds_toArray, List.set_cons_zero, List.set_cons_succ])
    clear kf
    refine' wpAnyH_take (i := 23) (oi := _) (v := _) ?hit23 ?hst23 ?hft23 ?hrt23 ?hQt23 ?hyt23 ?hSt23 ?_
    case hit23 => (simp only [List.getElem?_toArray, List.getElem?_cons_succ, List.getElem?_cons_zero]; rfl)
    case hst23 => kernel_rfl
    case hft23 => kernel_rfl
    case hrt23 => kernel_rfl
    case hQt23 => exact fun _ _ _ h => h
    case hSt23 => assumption
    case hyt23 =>
      refine Or.inl ⟨by rfl, ?_⟩
      intro w hSw
      (obtain ⟨_, hSc⟩ := hSw)
      go_simp
      all_goals (with_reducible rfl)
    (try simp only [Act.put, List.setIfInBounds_toArray, List.set_cons_zero, List.set_cons_succ])
    refine' wpAnyH_take (i := 24) (oi := _) (v := _) ?hit24 ?hst24 ?hft24 ?hrt24 ?hQt24 ?hyt24 ?hSt24 ?_
    case hit24 => (simp only [List.getElem?_toArray, List.getElem?_cons_succ, List.getElem?_cons_zero]; rfl)
    case hst24 => kernel_rfl
    case hft24 => kernel_rfl
    case hrt24 => kernel_rfl
    case hQt24 => exact fun _ _ _ h => h
    case hSt24 => assumption
    case hyt24 =>
      refine Or.inl ⟨by rfl, ?_⟩
      intro w hSw
      (obtain ⟨_, hSc⟩ := hSw)
      go_simp
      all_goals (with_reducible rfl)
    (try simp only [Act.put, List.setIfInBounds_toArray, List.set_cons_zero, List.set_cons_succ])
    refine' wpAnyH_take (i := 25) (oi := _) (v := _) ?hit25 ?hst25 ?hft25 ?hrt25 ?hQt25 ?hyt25 ?hSt25 ?_
    case hit25 => (simp only [List.getElem?_toArray, List.getElem?_cons_succ, List.getElem?_cons_zero]; rfl)
    case hst25 => kernel_rfl
    case hft25 => kernel_rfl
    case hrt25 => kernel_rfl
    case hQt25 => exact fun _ _ _ h => h
    case hSt25 => assumption
    case hyt25 =>
      refine Or.inl ⟨by rfl, ?_⟩
      intro w hSw
      (obtain ⟨_, hSc⟩ := hSw)
      go_simp
      all_goals (with_reducible rfl)
    (try simp only [Act.put, List.setIfInBounds_toArray, List.set_cons_zero, List.set_cons_succ])
    refine wpAnyH_ready (rs := [26]) (by kernel_rfl) (by simp) ?_
    refine' AllReadyH.cons (o := _) ?hir26 (fun K hK => ?_) AllReadyH.nil
    case hir26 => (simp only [List.getElem?_toArray, List.getElem?_cons_succ, List.getElem?_cons_zero]; rfl)
    go_simp
    refine (awake4_any _).mono ?_
    rintro e w12 ⟨rfl, hb12⟩
    have HD12 := Lib.hid (HD11.out.trans (hb12.mono HD11.out.size))
    clear hb12
    go_wp2_with fail
    refine hK.out _ _ ?_ (fun hHeld => ?_)
    · exact HK.out _ HD12.out
    clear hK K
    (try simp only [Act.put, List.setIfInBounds_toArray, List.set_cons_zero, List.set_cons_succ])
    refine' wpAnyH_take (i := 27) (oi := _) (v := _) ?hit27 ?hst27 ?hft27 ?hrt27 ?hQt27 ?hyt27 ?hSt27 ?_
    case hit27 => (simp only [List.getElem?_toArray, List.getElem?_cons_succ, List.getElem?_cons_zero]; rfl)
    case hst27 => kernel_rfl
    case hft27 => kernel_rfl
    case hrt27 => kernel_rfl
    case hQt27 => exact fun _ _ _ h => h
    case hSt27 => assumption
    case hyt27 =>
      refine Or.inl ⟨by rfl, ?_⟩
      intro w hSw
      (obtain ⟨_, hSc⟩ := hSw)
      go_simp
      all_goals (with_reducible rfl)
    (try simp only [Act.put, List.setIfInBounds_toArray, List.set_cons_zero, List.set_cons_succ])
    refine' wpAnyH_take (i := 28) (oi := _) (v := _) ?hit28 ?hst28 ?hft28 ?hrt28 ?hQt28 ?hyt28 ?hSt28 ?_
    case hit28 => (simp only [List.getElem?_toArray, List.getElem?_cons_succ, List.getElem?_cons_zero]; rfl)
    case hst28 => kernel_rfl
    case hft28 => kernel_rfl
    case hrt28 => kernel_rfl
    case hQt28 => exact fun _ _ _ h => h
    case hSt28 => assumption
    case hyt28 =>
      refine Or.inl ⟨by rfl, ?_⟩
      intro w hSw
      (obtain ⟨_, hSc⟩ := hSw)
      go_simp
      all_goals (with_reducible rfl)
    (try simp only [Act.put, List.setIfInBounds_toArray, List.set_cons_zero, List.set_cons_succ])
    refine wpAnyH_done (by kernel_rfl) ?_ _
    go_wp2_with fail
    go_ret
    exact ⟨rfl, HB5.out.trans (HD12.out.mono HB5.out.size)⟩
  · rw [if_neg hck] at hcut
    have HT := Lib.hid hcut
    clear hcut
    go_enter Try.func6, Try.ntmps6
    go_wp2_with fail
    refine (new_any _).mono ?_
    rintro e w1 ⟨g, rfl, hg1, hH1, hbel1⟩
    have HB1 := Lib.hid hbel1
    have HW1 := Lib.hid (write_any g [] (l.take k) A k c w1 hH1 (src_reads ((HF.out).keep (fun p hp => hbel1.cell hp)) hg1 hbel1.size) (by omega) (by simp; omega))
    clear hH1 hbel1
    go_wp2_with fail
    refine HW1.out.mono ?_
    rintro e w2 ⟨rfl, hH2, hgr2⟩
    have hb2 := HB1.out.grown hgr2 HB1.out.size (by intro j hj; injection hj with hj; omega)
    rw [List.nil_append] at hH2
    have HB2 := Lib.hid hb2
    have HW2 := Lib.hid (write_any g (l.take k) (l.drop k) (A.map (·.add k)) (n - k) (c - k) w2 hH2 (src_reads ((HT.out).keep (fun p hp => hb2.cell hp)) hg1 hb2.size) (by omega) (by simp; omega))
    clear hH2 hgr2 hb2
    go_wp2_with fail
    refine HW2.out.mono ?_
    rintro e w3 ⟨rfl, hH3, hgr3⟩
    have hb3 := HB2.out.grown hgr3 HB2.out.size (by intro j hj; injection hj with hj; omega)
    rw [HTD.out] at hH3
    have HS := Lib.hid (sum_any g l w3 hH3 (by omega))
    rw [← hR.out] at HS
    clear hH3 hgr3
    go_wp2_with fail
    refine HS.out.mono ?_
    rintro e w4 ⟨rfl, hb4⟩
    have hbel := hb3.trans (hb4.mono hb3.size)
    clear hb3 hb4
    go_wp2_with (first | (refine wpList_store_row rfl 25 (.tmp 6) (.tmp 33) rfl w4.heap.size R rfl rfl 25 z (heap_alloc_new w4 _) hbs.out hzz.out hb1.out ?_; rw [setRow_alloc1]))
    have hBk : Blk (w4.alloc (.cells R 25)) w4.heap.size 25 R := Blk.new _ _ _
    have hbel2 := hbel.alloc hbel.size (.cells R 25)
    obtain ⟨g2, hg2⟩ : ∃ g, g = w4.heap.size := ⟨_, rfl⟩
    rw [← hg2] at hBk ⊢
    generalize w4.alloc (.cells R 25) = w5 at *
    have HK : Hid (∀ W, Below w5.heap.size w5 W → Blk W g2 25 R ∧ (convert 27 9 (.slice (some ⟨g2, 0, none⟩) 64 64)).run Try.prog W = .ok (.string S0) W) :=
      Lib.hid fun W h => ⟨hBk.old h, by rw [hS0.out]; exact back_of_blk (by rw [← hR.out]; exact hBk.old h) (sumOf_length _)⟩
    have HB5 := Lib.hid hbel2
    have hws := hbel2.size
    clear hBk hbel2 hbel hg2 hz0
    have hdr : Below w5.heap.size w5 w5.drew := (Below.refl _ _).drew
    refine wp_region_held_drew (S := fun W => Blk W g2 25 R ∧ (convert 27 9 (.slice (some ⟨g2, 0, none⟩) 64 64)).run Try.prog W = .ok (.string S0) W) (by kernel_rfl) (HK.out _ hdr) (fun hHeld => ?_)
    have HD := Lib.hid hdr
    clear hdr
    generalize w5.drew = w6 at *
    (try simp only [Act.put, List.setIfInBounds_toArray, List.set_cons_zero, List.set_cons_succ])
    have hRv : Hid ((Value.agg R) = .agg (bytesA (sumOf l))) := by show _ = _; rw [hR.out]
    refine' wpAnyH_take (i := 0) (oi := _) (v := .agg R) ?hit0 ?hst0 ?hft0 ?hrt0 ?hQt0 ?hyt0 ?hSt0 ?_
    case hit0 => (simp only [List.getElem?_toArray, List.getElem?_cons_succ, List.getElem?_cons_zero]; rfl)
    case hst0 => kernel_rfl
    case hft0 => kernel_rfl
    case hrt0 => kernel_rfl
    case hQt0 => exact fun _ _ _ h => h
    case hSt0 => assumption
    case hyt0 =>
      refine Or.inl ⟨by rfl, ?_⟩
      intro W hS
      exact quiet_load_row 25 (.tmp 6) g2 rfl 25 R _ hS.1 Try.underlying25 rfl hbs.out rfl
    (try simp only [Act.put, List.setIfInBounds_toArray, List.set_cons_zero, List.set_cons_succ])
    refine' wpAnyH_take (i := 1) (oi := _) (v := _) ?hit1 ?hst1 ?hft1 ?hrt1 ?hQt1 ?hyt1 ?hSt1 ?_
    case hit1 => (simp only [List.getElem?_toArray, List.getElem?_cons_succ, List.getElem?_cons_zero]; rfl)
    case hst1 => kernel_rfl
    case hft1 => kernel_rfl
    case hrt1 => kernel_rfl
    case hQt1 => exact fun _ _ _ h => h
    case hSt1 => assumption
    case hyt1 =>
      refine Or.inl ⟨by rfl, ?_⟩
      intro w hSw
      (obtain ⟨_, hSc⟩ := hSw)
      go_simp
      all_goals (with_reducible rfl)
    (try simp only [Act.put, List.setIfInBounds_toArray, List.set_cons_zero, List.set_cons_succ])
    refine wpAnyH_ready (rs := [2]) (by kernel_rfl) (by simp) ?_
    refine' AllReadyH.cons (o := _) ?hir2 (fun K hK => ?_) AllReadyH.nil
    case hir2 => (simp only [List.getElem?_toArray, List.getElem?_cons_succ, List.getElem?_cons_zero]; rfl)
    go_simp
    refine hK.out _ _ ?_ (fun hHeld => ?_)
    · exact HK.out _ (HD.out.alloc HD.out.size _)
    clear hK K
    (try simp only [Act.put, List.setIfInBounds_toArray, List.set_cons_zero, List.set_cons_succ])
    have hb7 := HD.out.alloc HD.out.size (.cells #[.slice A n c] 27)
    have hr7 : Blk (w6.alloc (.cells #[.slice A n c] 27)) w6.heap.size 27 #[.slice A n c] := Blk.new _ _ _
    obtain ⟨g7, hg7⟩ : ∃ g, g = w6.heap.size := ⟨_, rfl⟩
    rw [← hg7] at hr7 ⊢
    generalize w6.alloc (.cells #[.slice A n c] 27) = w7 at *
    have hw7 := HB5.out.trans (hb7.mono HB5.out.size)
    have HR7 : Hid (RowsR w7 w7.heap.size (some ⟨g7, 0, none⟩) 1 [l]) := Lib.hid (rows_one hr7.lt (by rw [hr7.cell]; rfl) (HR.out.wider hw7.size (fun p hp => hw7.cell hp)) hnc)
    have HD7 := Lib.hid hb7
    clear hb7 hr7 hg7 hw7
    refine wpAnyH_ready (rs := [3]) (by kernel_rfl) (by simp) ?_
    refine' AllReadyH.cons (o := _) ?hir3 (fun K hK => ?_) AllReadyH.nil
    case hir3 => (simp only [List.getElem?_toArray, List.getElem?_cons_succ, List.getElem?_cons_zero]; rfl)
    go_simp
    refine (of_any _ 1 1 _ [l] w7 HR7.out (Nat.le_refl _) (by simp; omega) (by omega)).mono ?_
    rintro e w8 ⟨rfl, hb8⟩
    rw [show [l].flatten = l from by simp, ← hR.out]
    have HD8 := Lib.hid (HD7.out.trans (hb8.mono HD7.out.size))
    clear hb8
    go_wp2_with fail
    refine hK.out _ _ ?_ (fun hHeld => ?_)
    · exact HK.out _ HD8.out
    clear hK K
    (try simp only [Act.put, List.setIfInBounds_toArray, List.set_cons_zero, List.set_cons_succ])
    refine' wpAnyH_take (i := 4) (oi := _) (v := .bool true) ?hit4 ?hst4 ?hft4 ?hrt4 ?hQt4 ?hyt4 ?hSt4 ?_
    case hit4 => (simp only [List.getElem?_toArray, List.getElem?_cons_succ, List.getElem?_cons_zero]; rfl)
    case hst4 => kernel_rfl
    case hft4 => kernel_rfl
    case hrt4 => kernel_rfl
    case hQt4 => exact fun _ _ _ h => h
    case hSt4 => assumption
    case hyt4 =>
      refine Or.inl ⟨by rfl, ?_⟩
      intro W hS
      exact quiet_eq_row W (.tmp 34) (.tmp 37) 25 (sumOf l) (sumOf_length _) hRv.out hRv.out rfl
    (try simp only [Act.put, List.setIfInBounds_toArray, List.set_cons_zero, List.set_cons_succ])
    refine' wpAnyH_take (i := 5) (oi := _) (v := _) ?hit5 ?hst5 ?hft5 ?hrt5 ?hQt5 ?hyt5 ?hSt5 ?_
    case hit5 => (simp only [List.getElem?_toArray, List.getElem?_cons_succ, List.getElem?_cons_zero]; rfl)
    case hst5 => kernel_rfl
    case hft5 => kernel_rfl
    case hrt5 => kernel_rfl
    case hQt5 => exact fun _ _ _ h => h
    case hSt5 => assumption
    case hyt5 =>
      refine Or.inl ⟨by rfl, ?_⟩
      intro w hSw
      (obtain ⟨_, hSc⟩ := hSw)
      go_simp
      all_goals (with_reducible rfl)
    (try simp only [Act.put, List.setIfInBounds_toArray, List.set_cons_zero, List.set_cons_succ])
    refine' wpAnyH_take (i := 6) (oi := _) (v := .agg R) ?hit6 ?hst6 ?hft6 ?hrt6 ?hQt6 ?hyt6 ?hSt6 ?_
    case hit6 => (simp only [List.getElem?_toArray, List.getElem?_cons_succ, List.getElem?_cons_zero]; rfl)
    case hst6 => kernel_rfl
    case hft6 => kernel_rfl
    case hrt6 => kernel_rfl
    case hQt6 => exact fun _ _ _ h => h
    case hSt6 => assumption
    case hyt6 =>
      refine Or.inl ⟨by rfl, ?_⟩
      intro W hS
      exact quiet_load_row 25 (.tmp 6) g2 rfl 25 R _ hS.1 Try.underlying25 rfl hbs.out rfl
    (try simp only [Act.put, List.setIfInBounds_toArray, List.set_cons_zero, List.set_cons_succ])
    refine' wpAnyH_take (i := 7) (oi := _) (v := _) ?hit7 ?hst7 ?hft7 ?hrt7 ?hQt7 ?hyt7 ?hSt7 ?_
    case hit7 => (simp only [List.getElem?_toArray, List.getElem?_cons_succ, List.getElem?_cons_zero]; rfl)
    case hst7 => kernel_rfl
    case hft7 => kernel_rfl
    case hrt7 => kernel_rfl
    case hQt7 => exact fun _ _ _ h => h
    case hSt7 => assumption
    case hyt7 =>
      refine Or.inl ⟨by rfl, ?_⟩
      intro w hSw
      (obtain ⟨_, hSc⟩ := hSw)
      go_simp
      all_goals (with_reducible rfl)
    (try simp only [Act.put, List.setIfInBounds_toArray, List.set_cons_zero, List.set_cons_succ])
    refine' wpAnyH_take (i := 8) (oi := _) (v := _) ?hit8 ?hst8 ?hft8 ?hrt8 ?hQt8 ?hyt8 ?hSt8 ?_
    case hit8 => (simp only [List.getElem?_toArray, List.getElem?_cons_succ, List.getElem?_cons_zero]; rfl)
    case hst8 => kernel_rfl
    case hft8 => kernel_rfl
    case hrt8 => kernel_rfl
    case hQt8 => exact fun _ _ _ h => h
    case hSt8 => assumption
    case hyt8 =>
      refine Or.inl ⟨by rfl, ?_⟩
      intro w hSw
      (obtain ⟨_, hSc⟩ := hSw)
      go_simp
      all_goals (with_reducible rfl)
    (try simp only [Act.put, List.setIfInBounds_toArray, List.set_cons_zero, List.set_cons_succ])
    refine' wpAnyH_take (i := 9) (oi := _) (v := .slice A k c) ?hit9 ?hst9 ?hft9 ?hrt9 ?hQt9 ?hyt9 ?hSt9 ?_
    case hit9 => (simp only [List.getElem?_toArray, List.getElem?_cons_succ, List.getElem?_cons_zero]; rfl)
    case hst9 => kernel_rfl
    case hft9 => kernel_rfl
    case hrt9 => kernel_rfl
    case hQt9 => exact fun _ _ _ h => h
    case hSt9 => assumption
    case hyt9 =>
      refine Or.inl ⟨by rfl, ?_⟩
      intro w hSw
      (obtain ⟨_, hSc⟩ := hSw)
      go_simp
      all_goals (try simp only [if_pos hk, if_pos (show k ≤ c by omega), if_neg hck])
      all_goals (first | with_reducible rfl | (intro hh; omega))
    (try simp only [Act.put, List.setIfInBounds_toArray, List.set_cons_zero, List.set_cons_succ])
    refine' wpAnyH_take (i := 10) (oi := _) (v := _) ?hit10 ?hst10 ?hft10 ?hrt10 ?hQt10 ?hyt10 ?hSt10 ?_
    case hit10 => (simp only [List.getElem?_toArray, List.getElem?_cons_succ, List.getElem?_cons_zero]; rfl)
    case hst10 => kernel_rfl
    case hft10 => kernel_rfl
    case hrt10 => kernel_rfl
    case hQt10 => exact fun _ _ _ h => h
    case hSt10 => assumption
    case hyt10 =>
      refine Or.inl ⟨by rfl, ?_⟩
      intro w hSw
      (obtain ⟨_, hSc⟩ := hSw)
      go_simp
      all_goals (with_reducible rfl)
    (try simp only [Act.put, List.setIfInBounds_toArray, List.set_cons_zero, List.set_cons_succ])
    refine' wpAnyH_take (i := 11) (oi := _) (v := _) ?hit11 ?hst11 ?hft11 ?hrt11 ?hQt11 ?hyt11 ?hSt11 ?_
    case hit11 => (simp only [List.getElem?_toArray, List.getElem?_cons_succ, List.getElem?_cons_zero]; rfl)
    case hst11 => kernel_rfl
    case hft11 => kernel_rfl
    case hrt11 => kernel_rfl
    case hQt11 => exact fun _ _ _ h => h
    case hSt11 => assumption
    case hyt11 =>
      refine Or.inl ⟨by rfl, ?_⟩
      intro w hSw
      (obtain ⟨_, hSc⟩ := hSw)
      go_simp
      all_goals (with_reducible rfl)
    (try simp only [Act.put, List.setIfInBounds_toArray, List.set_cons_zero, List.set_cons_succ])
    refine' wpAnyH_take (i := 12) (oi := _) (v := .slice (A.map (·.add k)) (n - k) (c - k)) ?hit12 ?hst12 ?hft12 ?hrt12 ?hQt12 ?hyt12 ?hSt12 ?_
    case hit12 => (simp only [List.getElem?_toArray, List.getElem?_cons_succ, List.getElem?_cons_zero]; rfl)
    case hst12 => kernel_rfl
    case hft12 => kernel_rfl
    case hrt12 => kernel_rfl
    case hQt12 => exact fun _ _ _ h => h
    case hSt12 => assumption
    case hyt12 =>
      refine Or.inl ⟨by rfl, ?_⟩
      intro w hSw
      (obtain ⟨_, hSc⟩ := hSw)
      go_simp
      all_goals (try simp only [if_pos hk, if_pos (show k ≤ c by omega), if_neg hck])
      all_goals (first | with_reducible rfl | (intro hh; omega))
    (try simp only [Act.put, List.setIfInBounds_toArray, List.set_cons_zero, List.set_cons_succ])
    refine wpAnyH_ready (rs := [13]) (by kernel_rfl) (by simp) ?_
    refine' AllReadyH.cons (o := _) ?hir13 (fun K hK => ?_) AllReadyH.nil
    case hir13 => (simp only [List.getElem?_toArray, List.getElem?_cons_succ, List.getElem?_cons_zero]; rfl)
    go_simp
    refine hK.out _ _ ?_ (fun hHeld => ?_)
    · exact HK.out _ (HD8.out.alloc HD8.out.size _)
    clear hK K
    (try simp only [Act.put, List.setIfInBounds_toArray, List.set_cons_zero, List.set_cons_succ])
    have hb9 := HD8.out.alloc HD8.out.size (.cells #[.slice A k c, .slice (A.map (·.add k)) (n - k) (c - k)] 27)
    have hr9 : Blk (w8.alloc (.cells #[.slice A k c, .slice (A.map (·.add k)) (n - k) (c - k)] 27)) w8.heap.size 27 #[.slice A k c, .slice (A.map (·.add k)) (n - k) (c - k)] := Blk.new _ _ _
    obtain ⟨g9, hg9⟩ : ∃ g, g = w8.heap.size := ⟨_, rfl⟩
    rw [← hg9] at hr9 ⊢
    generalize w8.alloc (.cells #[.slice A k c, .slice (A.map (·.add k)) (n - k) (c - k)] 27) = w9 at *
    have hw9 := HB5.out.trans (hb9.mono HB5.out.size)
    have HR9 : Hid (RowsR w9 w9.heap.size (some ⟨g9, 0, none⟩) 2 [l.take k, l.drop k]) := Lib.hid (rows_two hr9.lt (by rw [hr9.cell]; rfl) (by rw [hr9.cell]; rfl) (HF.out.wider hw9.size (fun p hp => hw9.cell hp)) (by omega) (HT.out.wider hw9.size (fun p hp => hw9.cell hp)) (by omega))
    have HD9 := Lib.hid hb9
    clear hb9 hr9 hg9 hw9
    refine wpAnyH_ready (rs := [14]) (by kernel_rfl) (by simp) ?_
    refine' AllReadyH.cons (o := _) ?hir14 (fun K hK => ?_) AllReadyH.nil
    case hir14 => (simp only [List.getElem?_toArray, List.getElem?_cons_succ, List.getElem?_cons_zero]; rfl)
    go_simp
    refine (of_any _ 2 2 _ [l.take k, l.drop k] w9 HR9.out (Nat.le_refl _) (by rw [show [l.take k, l.drop k].flatten = l from by simp]; omega) (by omega)).mono ?_
    rintro e w10 ⟨rfl, hb10⟩
    rw [show [l.take k, l.drop k].flatten = l from by simp, ← hR.out]
    have HD10 := Lib.hid (HD9.out.trans (hb10.mono HD9.out.size))
    clear hb10
    go_wp2_with fail
    refine hK.out _ _ ?_ (fun hHeld => ?_)
    · exact HK.out _ HD10.out
    clear hK K
    (try simp only [Act.put, List.setIfInBounds_toArray, List.set_cons_zero, List.set_cons_succ])
    refine' wpAnyH_take (i := 15) (oi := _) (v := .bool true) ?hit15 ?hst15 ?hft15 ?hrt15 ?hQt15 ?hyt15 ?hSt15 ?_
    case hit15 => (simp only [List.getElem?_toArray, List.getElem?_cons_succ, List.getElem?_cons_zero]; rfl)
    case hst15 => kernel_rfl
    case hft15 => kernel_rfl
    case hrt15 => kernel_rfl
    case hQt15 => exact fun _ _ _ h => h
    case hSt15 => assumption
    case hyt15 =>
      refine Or.inl ⟨by rfl, ?_⟩
      intro W hS
      exact quiet_eq_row W (.tmp 40) (.tmp 48) 25 (sumOf l) (sumOf_length _) hRv.out hRv.out rfl
    (try simp only [Act.put, List.setIfInBounds_toArray, List.set_cons_zero, List.set_cons_succ])
    refine' wpAnyH_take (i := 16) (oi := _) (v := _) ?hit16 ?hst16 ?hft16 ?hrt16 ?hQt16 ?hyt16 ?hSt16 ?_
    case hit16 => (simp only [List.getElem?_toArray, List.getElem?_cons_succ, List.getElem?_cons_zero]; rfl)
    case hst16 => kernel_rfl
    case hft16 => kernel_rfl
    case hrt16 => kernel_rfl
    case hQt16 => exact fun _ _ _ h => h
    case hSt16 => assumption
    case hyt16 =>
      refine Or.inl ⟨by rfl, ?_⟩
      intro w hSw
      (obtain ⟨_, hSc⟩ := hSw)
      go_simp
      all_goals (with_reducible rfl)
    (try simp only [Act.put, List.setIfInBounds_toArray, List.set_cons_zero, List.set_cons_succ])
    refine' wpAnyH_take (i := 17) (oi := _) (v := _) ?hit17 ?hst17 ?hft17 ?hrt17 ?hQt17 ?hyt17 ?hSt17 ?_
    case hit17 => (simp only [List.getElem?_toArray, List.getElem?_cons_succ, List.getElem?_cons_zero]; rfl)
    case hst17 => kernel_rfl
    case hft17 => kernel_rfl
    case hrt17 => kernel_rfl
    case hQt17 => exact fun _ _ _ h => h
    case hSt17 => assumption
    case hyt17 =>
      refine Or.inl ⟨by rfl, ?_⟩
      intro w hSw
      (obtain ⟨_, hSc⟩ := hSw)
      go_simp
      all_goals (with_reducible rfl)
    (try simp only [Act.put, List.setIfInBounds_toArray, List.set_cons_zero, List.set_cons_succ])
    refine' wpAnyH_take (i := 18) (oi := _) (v := _) ?hit18 ?hst18 ?hft18 ?hrt18 ?hQt18 ?hyt18 ?hSt18 ?_
    case hit18 => (simp only [List.getElem?_toArray, List.getElem?_cons_succ, List.getElem?_cons_zero]; rfl)
    case hst18 => kernel_rfl
    case hft18 => kernel_rfl
    case hrt18 => kernel_rfl
    case hQt18 => exact fun _ _ _ h => h
    case hSt18 => assumption
    case hyt18 =>
      refine Or.inl ⟨by rfl, ?_⟩
      intro w hSw
      (obtain ⟨_, hSc⟩ := hSw)
      go_simp
      all_goals (with_reducible rfl)
    (try simp only [Act.put, List.setIfInBounds_toArray, List.set_cons_zero, List.set_cons_succ])
    refine' wpAnyH_take (i := 19) (oi := _) (v := _) ?hit19 ?hst19 ?hft19 ?hrt19 ?hQt19 ?hyt19 ?hSt19 ?_
    case hit19 => (simp only [List.getElem?_toArray, List.getElem?_cons_succ, List.getElem?_cons_zero]; rfl)
    case hst19 => kernel_rfl
    case hft19 => kernel_rfl
    case hrt19 => kernel_rfl
    case hQt19 => exact fun _ _ _ h => h
    case hSt19 => assumption
    case hyt19 =>
      refine Or.inl ⟨by rfl, ?_⟩
      intro w hSw
      (obtain ⟨_, hSc⟩ := hSw)
      go_simp
      all_goals (with_reducible rfl)
    (try simp only [Act.put, List.setIfInBounds_toArray, List.set_cons_zero, List.set_cons_succ])
    refine' wpAnyH_take (i := 20) (oi := _) (v := _) ?hit20 ?hst20 ?hft20 ?hrt20 ?hQt20 ?hyt20 ?hSt20 ?_
    case hit20 => (simp only [List.getElem?_toArray, List.getElem?_cons_succ, List.getElem?_cons_zero]; rfl)
    case hst20 => kernel_rfl
    case hft20 => kernel_rfl
    case hrt20 => kernel_rfl
    case hQt20 => exact fun _ _ _ h => h
    case hSt20 => assumption
    case hyt20 =>
      refine Or.inl ⟨by rfl, ?_⟩
      intro w hSw
      (obtain ⟨_, hSc⟩ := hSw)
      go_simp
      all_goals (with_reducible rfl)
    (try simp only [Act.put, List.setIfInBounds_toArray, List.set_cons_zero, List.set_cons_succ])
    refine wpAnyH_ready (rs := [21]) (by kernel_rfl) (by simp) ?_
    refine' AllReadyH.cons (o := _) ?hir21 (fun K hK => ?_) AllReadyH.nil
    case hir21 => (simp only [List.getElem?_toArray, List.getElem?_cons_succ, List.getElem?_cons_zero]; rfl)
    go_simp
    refine (refSum_any A n c _ l _ (HR.out.wider (HB5.out.trans (HD10.out.mono HB5.out.size)).size (fun p hp => (HB5.out.trans (HD10.out.mono HB5.out.size)).cell hp)) (by omega) (Nat.le_refl _)).mono ?_
    rintro e w11 ⟨v11, rfl, ho11, hb11⟩
    obtain ⟨A11, c11, rfl, hc11⟩ := own_form_cap ho11
    have HD11 := Lib.hid (HD10.out.trans (hb11.mono HD10.out.size))
    have kf := run_back (Reads.of_own ho11) (c := c11)
    rw [sumOf_length] at kf ⊢
    rw [← hS0.out] at kf
    clear ho11 hb11 hc11
    go_wp2_with fail
    refine hK.out _ _ ?_ (fun hHeld => ?_)
    · exact HK.out _ HD11.out
    clear hK K
    (try simp only [Act.put, List.setIfInBounds_toArray, List.set_cons_zero, List.set_cons_succ])
    refine wpAnyH_ready (rs := [22]) (by kernel_rfl) (by simp) ?_
    refine' AllReadyH.cons (o := _) ?hir22 (fun K hK => ?_) AllReadyH.nil
    case hir22 => (simp only [List.getElem?_toArray, List.getElem?_cons_succ, List.getElem?_cons_zero]; rfl)
    go_simp
    refine hK.out _ _ ?_ (fun hHeld => ?_)
    · exact HK.out _ HD11.out
    clear hK K
    (try simp only [Act.put, List.setIfInBounds_toArray, List.set_cons_zero, List.set_cons_succ])
    clear kf
    refine' wpAnyH_take (i := 23) (oi := _) (v := _) ?hit23 ?hst23 ?hft23 ?hrt23 ?hQt23 ?hyt23 ?hSt23 ?_
    case hit23 => (simp only [List.getElem?_toArray, List.getElem?_cons_succ, List.getElem?_cons_zero]; rfl)
    case hst23 => kernel_rfl
    case hft23 => kernel_rfl
    case hrt23 => kernel_rfl
    case hQt23 => exact fun _ _ _ h => h
    case hSt23 => assumption
    case hyt23 =>
      refine Or.inl ⟨by rfl, ?_⟩
      intro w hSw
      (obtain ⟨_, hSc⟩ := hSw)
      go_simp
      all_goals (with_reducible rfl)
    (try simp only [Act.put, List.setIfInBounds_toArray, List.set_cons_zero, List.set_cons_succ])
    refine' wpAnyH_take (i := 24) (oi := _) (v := _) ?hit24 ?hst24 ?hft24 ?hrt24 ?hQt24 ?hyt24 ?hSt24 ?_
    case hit24 => (simp only [List.getElem?_toArray, List.getElem?_cons_succ, List.getElem?_cons_zero]; rfl)
    case hst24 => kernel_rfl
    case hft24 => kernel_rfl
    case hrt24 => kernel_rfl
    case hQt24 => exact fun _ _ _ h => h
    case hSt24 => assumption
    case hyt24 =>
      refine Or.inl ⟨by rfl, ?_⟩
      intro w hSw
      (obtain ⟨_, hSc⟩ := hSw)
      go_simp
      all_goals (with_reducible rfl)
    (try simp only [Act.put, List.setIfInBounds_toArray, List.set_cons_zero, List.set_cons_succ])
    refine' wpAnyH_take (i := 25) (oi := _) (v := _) ?hit25 ?hst25 ?hft25 ?hrt25 ?hQt25 ?hyt25 ?hSt25 ?_
    case hit25 => (simp only [List.getElem?_toArray, List.getElem?_cons_succ, List.getElem?_cons_zero]; rfl)
    case hst25 => kernel_rfl
    case hft25 => kernel_rfl
    case hrt25 => kernel_rfl
    case hQt25 => exact fun _ _ _ h => h
    case hSt25 => assumption
    case hyt25 =>
      refine Or.inl ⟨by rfl, ?_⟩
      intro w hSw
      (obtain ⟨_, hSc⟩ := hSw)
      go_simp
      all_goals (with_reducible rfl)
    (try simp only [Act.put, List.setIfInBounds_toArray, List.set_cons_zero, List.set_cons_succ])
    refine wpAnyH_ready (rs := [26]) (by kernel_rfl) (by simp) ?_
    refine' AllReadyH.cons (o := _) ?hir26 (fun K hK => ?_) AllReadyH.nil
    case hir26 => (simp only [List.getElem?_toArray, List.getElem?_cons_succ, List.getElem?_cons_zero]; rfl)
    go_simp
    refine (awake4_any _).mono ?_
    rintro e w12 ⟨rfl, hb12⟩
    have HD12 := Lib.hid (HD11.out.trans (hb12.mono HD11.out.size))
    clear hb12
    go_wp2_with fail
    refine hK.out _ _ ?_ (fun hHeld => ?_)
    · exact HK.out _ HD12.out
    clear hK K
    (try simp only [Act.put, List.setIfInBounds_toArray, List.set_cons_zero, List.set_cons_succ])
    refine' wpAnyH_take (i := 27) (oi := _) (v := _) ?hit27 ?hst27 ?hft27 ?hrt27 ?hQt27 ?hyt27 ?hSt27 ?_
    case hit27 => (simp only [List.getElem?_toArray, List.getElem?_cons_succ, List.getElem?_cons_zero]; rfl)
    case hst27 => kernel_rfl
    case hft27 => kernel_rfl
    case hrt27 => kernel_rfl
    case hQt27 => exact fun _ _ _ h => h
    case hSt27 => assumption
    case hyt27 =>
      refine Or.inl ⟨by rfl, ?_⟩
      intro w hSw
      (obtain ⟨_, hSc⟩ := hSw)
      go_simp
      all_goals (with_reducible rfl)
    (try simp only [Act.put, List.setIfInBounds_toArray, List.set_cons_zero, List.set_cons_succ])
    refine' wpAnyH_take (i := 28) (oi := _) (v := _) ?hit28 ?hst28 ?hft28 ?hrt28 ?hQt28 ?hyt28 ?hSt28 ?_
    case hit28 => (simp only [List.getElem?_toArray, List.getElem?_cons_succ, List.getElem?_cons_zero]; rfl)
    case hst28 => kernel_rfl
    case hft28 => kernel_rfl
    case hrt28 => kernel_rfl
    case hQt28 => exact fun _ _ _ h => h
    case hSt28 => assumption
    case hyt28 =>
      refine Or.inl ⟨by rfl, ?_⟩
      intro w hSw
      (obtain ⟨_, hSc⟩ := hSw)
      go_simp
      all_goals (with_reducible rfl)
    (try simp only [Act.put, List.setIfInBounds_toArray, List.set_cons_zero, List.set_cons_succ])
    refine wpAnyH_done (by kernel_rfl) ?_ _
    go_wp2_with fail
    go_ret
    exact ⟨rfl, HB5.out.trans (HD12.out.mono HB5.out.size)⟩
end Go.Proofs.Ytblielcmjdnlfaa
