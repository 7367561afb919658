/-
  The contracts of sha's bytes, Sum, New and Of. Conditions: at most 2^39 bytes were written.
-/
import Derived.Test.YtblielcmjdnlfaaShaEnd
set_option linter.unusedVariables false
set_option linter.unusedSimpArgs false
namespace Go.Proofs.Ytblielcmjdnlfaa
open Go Go.Proofs Go.RowKit Sha5

theorem info25 : (Try.prog.info? 25).map (·.size) = some 64 := by kernel_rfl
theorem flat_take (l : List Nat) (k : Nat) (hk : k < l.length) : (l.take (k + 1)).flatMap wordBytes = (l.take k).flatMap wordBytes ++ wordBytes (l.getD k 0) := by
  rw [List.take_succ_eq_append_getElem hk, List.flatMap_append, List.getD_eq_getElem?_getD, List.getElem?_eq_getElem hk]
  simp
theorem flat_length (l : List Nat) : (l.flatMap wordBytes).length = 8 * l.length := by
  induction l with
  | nil => rfl
  | cons a t ih => rw [List.flatMap_cons, List.length_append, ih, wordBytes_length, List.length_cons]; omega

def sumOf (D : List UInt8) : List UInt8 := sumWith KS H0 D
theorem sumOf_length (D : List UInt8) : (sumOf D).length = 64 := by
  unfold sumOf sumWith
  rw [flat_length]; rfl

set_option maxHeartbeats 4000000 in
set_option maxRecDepth 100000 in
theorem bytes_any (g : Nat) (s : St) (b : List UInt8) (n : Nat) (w : World) (hB : Blk w g 48 (hashA s.list b n)) (hs : s.ok) :
    Calls Try.prog 25 #[.pointer (some ⟨g, 0, none⟩)] w fun e w' => e = .returned (.agg (bytesA (s.list.flatMap wordBytes))) ∧ Below w.heap.size w w' := by
  have hgl := hB.lt
  have hsl := fun i => list_lt hs i
  have HSL := Lib.hid hsl
  clear hsl hs
  obtain ⟨z, hz⟩ : ∃ z, Hid (z = (Array.replicate 64 (Value.int .u8 0))) := ⟨_, Lib.hid rfl⟩
  have hz0 : ∀ W, (zeroValue 25).run Try.prog W = .ok (.agg z) W := by
    rw [hz.out]; exact (zero_of_info (n := 64) (by kernel_rfl)).1
  have hB1 : Hid (Blk (w.alloc (.cells z 25)) g 48 (hashA s.list b n)) := Lib.hid (hB.alloc _)
  have H8 : Hid (∀ j v, (stA s)[j]? = some v → (w.alloc (.cells z 25)).cell? ⟨g, 0 + j, none⟩ = some v) := Lib.hid (by
    intro j v hj
    have hj8 : j < 8 := (Array.getElem?_eq_some_iff.1 hj).1
    rw [Nat.zero_add, hB1.out.cell, hashA_word _ _ _ j rfl hj8, ← hj, stA_eq, u64s_get _ _ hj8])
  clear hB
  go_enter Try.func25, Try.ntmps25
  go_wp2_with (first | (refine wpList_load_at rfl 37 (.tmp 8) rfl g 0 rfl 36 8 (stA s) Try.underlying37 info37 H8.out ?_) | fail)
  have hav : Hid (∀ i, i < 8 → (stA s)[i]? = some (.int .u64 ((s.list.getD i 0 : Nat) : Int))) := Lib.hid fun i hi => by rw [stA_eq]; exact u64s_get _ _ hi
  have hzs : Hid (z.size = 64) := by show _ = _; rw [hz.out]; simp
  clear H8 hz0 hB1 hz
  generalize stA s = av at hav ⊢
  go_loopw [3, 5, 10] (fun v _ i wr => ∃ k : Nat, k ≤ 8 ∧ i = .int .i64 k ∧ wr.ownsRow (w.heap.size + 1) 5 1 v ((s.list.take k).flatMap wordBytes).length (Lib.byteCells ((s.list.take k).flatMap wordBytes)) ∧ Blk wr w.heap.size 25 z ∧ Below w.heap.size w wr) (fun _ _ i _ => 8 - (intOf i).toNat)
  case atStart => exact ⟨0, Nat.zero_le _, rfl, World.ownsRow_nil _ _ _ _, Blk.new _ _ _, (Below.refl _ _).alloc (Nat.le_refl _) _⟩
  case round =>
    obtain ⟨k, hk, rfl, hown, hBz, hbel⟩ := hrel
    by_cases hlt : k < 8
    · have hix := run_index_one (P := Try.prog) Try.underlying37 Try.isAgg36 Try.sizeOf36 av k _ hlt (hav.out k hlt)
      have hft := flat_take s.list k hlt
      have hsl := HSL.out k
      have hzl := hBz.lt
      have hfl : ((s.list.take k).flatMap wordBytes).length ≤ 1099511627776 := by rw [flat_length]; simp; omega
      generalize s.list.getD k 0 = x at *
      have hA := Lib.hid (appendWord_any (w.heap.size + 1) x u3 _ wr hown hsl hfl (by omega))
      rw [← hft] at hA
      have HB := Lib.hid hBz
      clear hown hft hBz hfl
      go_wp2_with fail
      refine hA.out.mono ?_
      rintro e w2 ⟨v2, rfl, ho2, hb2⟩
      have hB2 := Lib.hid (HB.out.below hb2 (Nat.lt_succ_self _))
      have hbel2 := hbel.trans (hb2.mono (Nat.le_succ _))
      go_wp2_with fail
      go_roundw
      case rel => exact ⟨k + 1, by omega, by go_num, ho2, hB2.out, hbel2⟩
      case measure => simp [intOf]; omega
    · obtain rfl : k = 8 := by omega
      have e8 : s.list.take 8 = s.list := rfl
      have hl64 : (s.list.flatMap wordBytes).length = 64 := by rw [flat_length]; rfl
      rw [e8, hl64] at hown
      obtain ⟨g2, cap, rfl, hg2, hg3⟩ := hown.form (by omega)
      have hrow := hown.cells (g := g2) rfl
      have HL := Lib.hid hl64
      have HBz := Lib.hid hBz
      have hld : Hid (∀ j v, (bytesA (s.list.flatMap wordBytes))[j]? = some v → wr.cell? ⟨g2, 0 + j, none⟩ = some v) := Lib.hid fun j v hj => by
        rw [bytesA, List.getElem?_toArray] at hj
        have := hrow j v hj
        rw [Nat.zero_add]
        rw [show (⟨g2, 0, none⟩ : Addr).add j = ⟨g2, j, none⟩ from by unfold Addr.add; split <;> simp_all] at this
        exact this
      have hbs : Hid ((Try.prog.info? 25).map (·.size) = some (bytesA (s.list.flatMap wordBytes)).size) := by
        show _ = _; rw [bytesA_size, HL.out]; exact info25
      have hb1 : Hid ((bytesA (s.list.flatMap wordBytes)).all (·.oneCell') = true) := bytesA_one _
      have hzz : Hid (z.size = (bytesA (s.list.flatMap wordBytes)).size) := by show _ = _; rw [hzs.out, bytesA_size, HL.out]
      clear hown hrow hl64 hBz hav e8
      obtain ⟨R, hR⟩ : ∃ R, Hid (R = bytesA (s.list.flatMap wordBytes)) := ⟨_, Lib.hid rfl⟩
      rw [← hR.out] at hld hbs hb1 hzz
      have harr : (Instr.arrayAt 25 (.slice (some ⟨g2, 0, none⟩) 64 cap)).run Try.prog wr = .ok (.pointer (some ⟨g2, 0, none⟩)) wr := by
        unfold Instr.arrayAt
        simp [run_underlying Try.underlying25, Result.andThen]
      go_wp2_with (first | (refine wpList_load_at rfl 25 (.tmp 18) rfl g2 0 rfl 5 64 R Try.underlying25 hbs.out hld.out ?_) |
        (refine wpList_store_row rfl 25 (.tmp 2) (.tmp 19) rfl w.heap.size R rfl rfl 25 z HBz.out hbs.out hzz.out hb1.out ?_))
      refine bodyPost_ret (v := .agg R) ?_ rfl ⟨by rw [hR.out], below_row hbel (Nat.le_refl _) _⟩
      exact results_cell_row Try.results25 _ _ w.heap.size 25 R (0, 0) _ rfl (HBz.out.row R) Try.underlying25 rfl hbs.out

theorem infoHash : (Try.prog.info? 48).map (fun i => (i.zero, i.size)) = some (some (.agg (u64s (List.replicate 8 0) ++ u64s (List.replicate 80 0) ++ bytesA (List.replicate 128 0) ++ #[.int .u64 0])), 217) := by kernel_rfl
theorem infoHash2 : (Try.prog.info? 48).map (·.size) = some 217 := by kernel_rfl
theorem hashA_one (l : List Nat) (b : List UInt8) (n : Nat) : (hashA l b n).all (·.oneCell') = true := by
  rw [Array.all_eq_true_iff_forall_mem]
  intro v hv
  simp only [hashA, hashL, List.mem_toArray, List.mem_append, List.mem_map, List.mem_singleton] at hv
  rcases hv with ⟨x, _, rfl⟩ | ⟨x, _, rfl⟩ | hv | rfl
  · rfl
  · rfl
  · exact byteCells_one _ _ hv
  · rfl

set_option maxHeartbeats 4000000 in
set_option maxRecDepth 100000 in
theorem sum_any (g : Nat) (D : List UInt8) (w : World) (hH : HashAt w g D) (hN : D.length ≤ 549755813888) :
    Calls Try.prog 14 #[.pointer (some ⟨g, 0, none⟩)] w fun e w' => e = .returned (.agg (bytesA (sumOf D))) ∧ Below w.heap.size w w' := by
  obtain ⟨s, b, hB, hok⟩ := hH
  obtain ⟨hc, hHC⟩ : ∃ hc, Hid (hc = hashA s.list b D.length) := ⟨_, Lib.hid rfl⟩
  obtain ⟨z, hz⟩ : ∃ z, Hid (z = (Array.replicate 64 (Value.int .u8 0))) := ⟨_, Lib.hid rfl⟩
  have hz0 : ∀ W, (zeroValue 25).run Try.prog W = .ok (.agg z) W := by
    rw [hz.out]; exact (zero_of_info (n := 64) (by kernel_rfl)).1
  obtain ⟨zh, hzh⟩ : ∃ zh, Hid (zh = (u64s (List.replicate 8 0) ++ u64s (List.replicate 80 0) ++ bytesA (List.replicate 128 0) ++ #[.int .u64 0])) := ⟨_, Lib.hid rfl⟩
  have hz1 : ∀ W, (zeroValue 48).run Try.prog W = .ok (.agg zh) W := by
    rw [hzh.out]; exact (zero_of_info infoHash).1
  have hgl := hB.lt
  rw [← hHC.out] at hB
  have hB1 := Lib.hid (hB.alloc (.cells z 25))
  have hhs : Hid ((Try.prog.info? 48).map (·.size) = some hc.size) := by
    show _ = _; rw [hHC.out, hashA_size _ _ _ rfl hok.1]; exact infoHash2
  clear hB
  have hzs : Hid (z.size = 64) := by show _ = _; rw [hz.out]; simp
  have hzhs : Hid (zh.size = hc.size) := by
    show _ = _
    rw [hHC.out, hashA_size _ _ _ rfl hok.1, hzh.out]; simp [u64s_size, bytesA_size]
  have hho : Hid (hc.all (·.oneCell') = true) := by show _ = _; rw [hHC.out]; exact hashA_one _ _ _
  have hH2 : Hid (HashAt ((w.alloc (.cells z 25)).alloc (.cells hc 48)) (w.heap.size + 1) D) := Lib.hid ⟨s, b, by rw [← hHC.out]; exact heap_alloc2_new w _ _, hok⟩
  have hz2 : Hid (Blk ((w.alloc (.cells z 25)).alloc (.cells hc 48)) w.heap.size 25 z) := Lib.hid (heap_alloc2_old w _ _)
  have hb2 : Hid (Below w.heap.size w ((w.alloc (.cells z 25)).alloc (.cells hc 48))) := Lib.hid (((Below.refl _ _).alloc (Nat.le_refl _) _).alloc (by simp) _)
  have HF := Lib.hid (fillUp_any (w.heap.size + 1) D _ hH2.out hN)
  clear hok
  go_enter Try.func14, Try.ntmps14
  go_wp2_with (first | (refine wpList_load_row rfl 48 (.tmp 8) rfl g rfl 48 hc (0, 0) _ hB1.out Try.underlying48 rfl hhs.out ?_) |
    (refine wpList_store_row rfl 48 (.tmp 3) (.tmp 9) rfl (w.heap.size + 1) hc rfl rfl 48 zh (heap_alloc2_new w _ _) hhs.out hzhs.out hho.out ?_; rw [setRow_alloc2]))
  refine HF.out.mono ?_
  rintro e w3 ⟨rfl, hH3, hg3⟩
  obtain ⟨s3, b3, hB3, hok3⟩ := hH3
  have hz3 : Blk w3 w.heap.size 25 z := hz2.out.grown hg3 (by simp)
  have hb3 : Below w.heap.size w w3 := hb2.out.grown hg3 (by simp; omega) (by intro k hk; injection hk with hk; omega)
  have hsum : Hid (s3.list.flatMap wordBytes = sumOf D) := by
    show _ = _
    rw [hok3.2.1]; rfl
  have HBY := Lib.hid (bytes_any (w.heap.size + 1) s3 b3 _ w3 hB3 hok3.ok)
  have HZ3 := Lib.hid hz3
  have HB3 := Lib.hid hb3
  clear hB3 hok3 hg3 hz3 hb3 hz0 hz1
  obtain ⟨R, hR⟩ : ∃ R, Hid (R = bytesA (sumOf D)) := ⟨_, Lib.hid rfl⟩
  have hbs : Hid ((Try.prog.info? 25).map (·.size) = some R.size) := by
    show _ = _; rw [hR.out, bytesA_size, sumOf_length]; exact info25
  have hb1 : Hid (R.all (·.oneCell') = true) := by show _ = _; rw [hR.out]; exact bytesA_one _
  have hzz : Hid (z.size = R.size) := by show _ = _; rw [hzs.out, hR.out, bytesA_size, sumOf_length]
  go_wp2_with fail
  refine HBY.out.mono ?_
  rintro e w4 ⟨rfl, hb4⟩
  rw [hsum.out, ← hR.out]
  have HZ4 := Lib.hid (HZ3.out.old hb4)
  have HB4 := Lib.hid (HB3.out.trans (hb4.mono HB3.out.size))
  clear hb4
  go_wp2_with (first | (refine wpList_store_row rfl 25 (.tmp 2) (.tmp 11) rfl w.heap.size R rfl rfl 25 z HZ4.out hbs.out hzz.out hb1.out ?_) | fail)
  refine bodyPost_ret (v := .agg R) ?_ rfl ⟨by rw [hR.out], below_row HB4.out (Nat.le_refl _) _⟩
  exact results_cell_row Try.results14 _ _ w.heap.size 25 R (0, 0) _ rfl (HZ4.out.row R) Try.underlying25 rfl hbs.out

theorem quiet_load_row {P : Program} {o : Oper} {ev : Operand → Value} {w : World} (ty : TypeId) (x : Operand)
    (g : Nat) (hx : ev x = .pointer (some ⟨g, 0, none⟩)) (t : TypeId) (cs : Array Value) (d : TypeDesc) (hg : Blk w g t cs)
    (hu : P.underlying ty = some d) (hd : (match d with | .struct _ | .array _ _ => true | _ => false) = true) (hi : (P.info? ty).map (·.size) = some cs.size) (ho : o.op = .load ty x) :
    (execOp ev o).run P w = .ok (.value (.agg cs)) w := by
  unfold execOp
  simp only [ho, hx, Instr.loadAt, Instr.sureAddr, Sem.run_bind, Sem.run_pure, Result.andThen_ok, run_loadVar_row w g t ty cs (0, 0) d hg hu hd hi]
theorem wp_build_to {P : Program} {o : Oper} {a : Act} {w : World} {K : Act → World → Prop} {Q : Exit → Act → World → Prop} (t : TypeId) (parts : Array (Nat × Operand)) (ho : o.op = .build t parts)
    (vals : List (Nat × Value)) (hv : (parts.map fun (i, x) => (i, a.eval x)).toList = vals) (cells : Array Value) (hb : P.built t vals = some cells) (h : K (a.put o.dst (.agg cells)) w) : o.wp P a w K Q :=
  wp_build t parts ho (by rw [hv, hb]; rfl) (by rw [hv, hb]; exact h)
theorem step_of_wp {P : Program} {ops : Array Oper} {o : Oper} {a : Act} {K : Act → World → Prop} {Q : Exit → Act → World → Prop} {E : Prop} {w : World} (hgd : o.guard = none) (h : Oper.wp P o a w K Q) :
    if Region.wanted o (yielded ops a.tmps) = true then Oper.wp P o a w K Q else E := by
  have hw : Region.wanted o (yielded ops a.tmps) = true := by simp [Region.wanted, hgd]
  rw [if_pos hw]
  exact h

/-- Fresh memory of a hash that New makes. -/
theorem built_hash : Try.prog.built 48 [(0, .agg (u64s H0.list)), (1, .agg (u64s KS))] = some (hashA H0.list (List.replicate 128 0) 0) := by kernel_rfl

def NewEnd (w : World) (e : Ending) (w' : World) : Prop := ∃ g, e = .returned (.pointer (some ⟨g, 0, none⟩)) ∧ w.heap.size ≤ g ∧ HashAt w' g [] ∧ Below w.heap.size w w'

set_option maxHeartbeats 4000000 in
set_option maxRecDepth 100000 in
theorem new_any (w : World) : Calls Try.prog 12 #[] w (NewEnd w) := by
  obtain ⟨z, hz⟩ : ∃ z, Hid (z = u64s (List.replicate 80 0)) := ⟨_, Lib.hid rfl⟩
  have hz0 : ∀ W, (zeroValue 39).run Try.prog W = .ok (.agg z) W := by
    rw [hz.out]; exact (zero_of_info (n := 80) (by kernel_rfl)).1
  go_enter Try.func12, Try.ntmps12
  go_wp2_with fail
  refine (primes_any _).mono ?_
  rintro e w1 ⟨rfl, hb1⟩
  obtain ⟨P, hP⟩ : ∃ P, Hid (P = u64s PRIMES) := ⟨_, Lib.hid rfl⟩
  rw [← hP.out]
  have hPs : Hid ((Try.prog.info? 39).map (·.size) = some P.size) := by
    show _ = _; rw [hP.out, u64s_size, PRIMES_length]; exact info39
  have hPo : Hid (P.all (·.oneCell') = true) := by show _ = _; rw [hP.out]; exact u64s_one _
  have hPz : Hid (z.size = P.size) := by show _ = _; rw [hz.out, hP.out, u64s_size, u64s_size, PRIMES_length]; rfl
  go_wp2_with (first | (refine wpList_store_row rfl 39 (.tmp 1) (.tmp 2) rfl w1.heap.size P rfl rfl 39 z (heap_alloc_new w1 _) hPs.out hPz.out hPo.out ?_; rw [setRow_alloc1]))
  have hS0 : Blk (w1.alloc (.cells P 39)) w1.heap.size 39 P ∧ Below w.heap.size w (w1.alloc (.cells P 39)) ∧ w1.heap.size < (w1.alloc (.cells P 39)).heap.size := ⟨Blk.new _ _ _, hb1.alloc hb1.size _, by simp⟩
  have hw1 := hb1.size
  generalize w1.alloc (.cells P 39) = w2 at hS0 ⊢
  have CF := Lib.hid (fun W => firstWords_any W)
  have CC := Lib.hid (fun W => constants_any W)
  rw [← hP.out] at CF CC
  have HS : Hid (∀ W W', (Blk W w1.heap.size 39 P ∧ Below w.heap.size w W ∧ w1.heap.size < W.heap.size) → Below W.heap.size W W' → (Blk W' w1.heap.size 39 P ∧ Below w.heap.size w W' ∧ w1.heap.size < W'.heap.size)) :=
    Lib.hid fun W W' h hb => ⟨h.1.old hb, h.2.1.trans (hb.mono h.2.1.size), Nat.lt_of_lt_of_le h.2.2 hb.size⟩
  clear hb1 hz0
  refine wp_region_held_drew (S := fun W => Blk W w1.heap.size 39 P ∧ Below w.heap.size w W ∧ w1.heap.size < W.heap.size) (by kernel_rfl) (HS.out _ _ hS0 (Below.refl _ _).drew) (fun hHeld => ?_)
  have HH0 := Lib.hid (HS.out _ _ hS0 (Below.refl _ _).drew)
  clear hS0
  generalize w2.drew = w3 at *
  (try simp only [Act.put, List.setIfInBounds_toArray, List.set_cons_zero, List.set_cons_succ])
  refine' wpAnyH_take (i := 0) (oi := _) (v := .agg P) ?hit0 ?hst0 ?hft0 ?hrt0 ?hQt0 ?hyt0 ?hSt0 ?_
  case hit0 => (simp only [List.getElem?_toArray, List.getElem?_cons_succ, List.getElem?_cons_zero]; rfl)
  case hst0 => kernel_rfl
  case hft0 => kernel_rfl
  case hrt0 => kernel_rfl
  case hQt0 => exact fun _ _ _ h => h
  case hSt0 => assumption
  case hyt0 =>
    refine Or.inl ⟨by rfl, ?_⟩
    intro W hS
    exact quiet_load_row 39 (.tmp 1) w1.heap.size rfl 39 P _ hS.1 Try.underlying39 rfl hPs.out rfl
  (try simp only [Act.put, List.setIfInBounds_toArray, List.set_cons_zero, List.set_cons_succ])
  refine' wpAnyH_take (i := 2) (oi := _) (v := .agg P) ?hit2 ?hst2 ?hft2 ?hrt2 ?hQt2 ?hyt2 ?hSt2 ?_
  case hit2 => (simp only [List.getElem?_toArray, List.getElem?_cons_succ, List.getElem?_cons_zero]; rfl)
  case hst2 => kernel_rfl
  case hft2 => kernel_rfl
  case hrt2 => kernel_rfl
  case hQt2 => exact fun _ _ _ h => h
  case hSt2 => assumption
  case hyt2 =>
    refine Or.inl ⟨by rfl, ?_⟩
    intro W hS
    exact quiet_load_row 39 (.tmp 1) w1.heap.size rfl 39 P _ hS.1 Try.underlying39 rfl hPs.out rfl
  (try simp only [Act.put, List.setIfInBounds_toArray, List.set_cons_zero, List.set_cons_succ])
  refine wpAnyH_ready (rs := [1]) (by kernel_rfl) (by simp) ?_
  refine' AllReadyH.cons (o := _) ?hir1 (fun K hK => ?_) AllReadyH.nil
  case hir1 => (simp only [List.getElem?_toArray, List.getElem?_cons_succ, List.getElem?_cons_zero]; rfl)
  go_simp
  refine (CF.out _).mono ?_
  rintro e w4 ⟨rfl, hb4⟩
  have H4 := Lib.hid (HS.out _ _ HH0.out hb4)
  clear hb4
  go_wp2_with fail
  refine hK.out _ _ ?_ (fun hHeld => ?_)
  · exact H4.out
  clear hK K
  (try simp only [Act.put, List.setIfInBounds_toArray, List.set_cons_zero, List.set_cons_succ])
  refine wpAnyH_ready (rs := [3]) (by kernel_rfl) (by simp) ?_
  refine' AllReadyH.cons (o := _) ?hir3 (fun K hK => ?_) AllReadyH.nil
  case hir3 => (simp only [List.getElem?_toArray, List.getElem?_cons_succ, List.getElem?_cons_zero]; rfl)
  go_simp
  refine (CC.out _).mono ?_
  rintro e w5 ⟨rfl, hb5⟩
  have H5 := Lib.hid (HS.out _ _ H4.out hb5)
  clear hb5
  go_wp2_with fail
  refine hK.out _ _ ?_ (fun hHeld => ?_)
  · exact H5.out
  clear hK K
  (try simp only [Act.put, List.setIfInBounds_toArray, List.set_cons_zero, List.set_cons_succ])
  refine wpAnyH_ready (rs := [4]) (by kernel_rfl) (by simp) ?_
  refine' AllReadyH.cons (o := _) ?hir4 (fun K hK => ?_) AllReadyH.nil
  case hir4 => (simp only [List.getElem?_toArray, List.getElem?_cons_succ, List.getElem?_cons_zero]; rfl)
  refine step_of_wp rfl ?_
  refine wp_build_to 48 _ rfl [(0, .agg (u64s H0.list)), (1, .agg (u64s KS))] (by simp [Act.eval]) _ built_hash ?_
  refine hK.out _ _ ?_ (fun hHeld => ?_)
  · exact H5.out
  clear hK K
  (try simp only [Act.put, List.setIfInBounds_toArray, List.set_cons_zero, List.set_cons_succ])
  obtain ⟨HA, hHA⟩ : ∃ HA, Hid (HA = hashA H0.list (List.replicate 128 0) 0) := ⟨_, Lib.hid rfl⟩
  rw [← hHA.out]
  refine wpAnyH_ready (rs := [5]) (by kernel_rfl) (by simp) ?_
  refine' AllReadyH.cons (o := _) ?hir5 (fun K hK => ?_) AllReadyH.nil
  case hir5 => (simp only [List.getElem?_toArray, List.getElem?_cons_succ, List.getElem?_cons_zero]; rfl)
  go_simp
  refine hK.out _ _ ?_ (fun hHeld => ?_)
  · exact HS.out _ _ H5.out ((Below.refl _ _).alloc (Nat.le_refl _) _)
  clear hK K
  (try simp only [Act.put, List.setIfInBounds_toArray, List.set_cons_zero, List.set_cons_succ])
  refine' wpAnyH_take (i := 6) (oi := _) (v := _) ?hit6 ?hst6 ?hft6 ?hrt6 ?hQt6 ?hyt6 ?hSt6 ?_
  case hit6 => (simp only [List.getElem?_toArray, List.getElem?_cons_succ, List.getElem?_cons_zero]; rfl)
  case hst6 => kernel_rfl
  case hft6 => kernel_rfl
  case hrt6 => kernel_rfl
  case hQt6 => exact fun _ _ _ h => h
  case hSt6 => assumption
  case hyt6 =>
    refine Or.inl ⟨by rfl, ?_⟩
    intro w hSw
    (try dsimp only at hSw)
    go_simp
    all_goals (with_reducible rfl)
  (try simp only [Act.put, List.setIfInBounds_toArray, List.set_cons_zero, List.set_cons_succ])
  refine wpAnyH_done (by kernel_rfl) ?_ _
  go_wp2_with fail
  go_ret
  have hz5 := H5.out.2.1.size
  refine ⟨w5.heap.size, rfl, hz5, ⟨H0, List.replicate 128 0, ?_, HashOk.zero _ (by simp)⟩, H5.out.2.1.alloc hz5 _⟩
  rw [hHA.out]; exact Blk.new _ _ _
end Go.Proofs.Ytblielcmjdnlfaa
