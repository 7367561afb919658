/-
  The contracts of the reference's sum and difference. Conditions: numbers below 2^256; to take away, below p.
-/
import Derived.Test.YtphlehinjooncaaDoorFldRaw
import Derived.Test.YtphlehinjooncaaDoorFldOpsM
set_option linter.unusedVariables false
set_option linter.unusedSimpArgs false
namespace Go.Proofs.YtphlehinjooncaaDoor
open Go Go.Proofs Go.RowKit F5

/-- Three new blocks of limbs. -/
def Two3 (w : World) (a b c : Array Value) (wr : World) : Prop :=
  Blk wr w.heap.size 35 a ∧ Blk wr (w.heap.size + 1) 35 b ∧ Blk wr (w.heap.size + 2) 35 c ∧ Below w.heap.size w wr
theorem Two3.drew {w wr : World} {a b c : Array Value} (h : Two3 w a b c wr) : Two3 w a b c wr.drew := ⟨h.1.drew, h.2.1.drew, h.2.2.1.drew, h.2.2.2.drew⟩
theorem Two3.next {w wr w' : World} {a b c : Array Value} (h : Two3 w a b c wr) (hb : Below wr.heap.size wr w') : Two3 w a b c w' :=
  ⟨h.1.old hb, h.2.1.old hb, h.2.2.1.old hb, h.2.2.2.trans (hb.mono h.2.2.2.size)⟩
theorem Two3.set {w wr : World} {L : List Nat} {b c : Array Value} (h : Two3 w (u64s L) b c wr) (i s : Nat) : Two3 w (u64s (L.set i s)) b c (wr.setCell ⟨w.heap.size, i, none⟩ (.int .u64 (s : Int))) :=
  ⟨h.1.u64set i s, h.2.1.far (by show w.heap.size + 1 ≠ w.heap.size; omega) _, h.2.2.1.far (by show w.heap.size + 2 ≠ w.heap.size; omega) _, h.2.2.2.setCell (by show w.heap.size ≤ w.heap.size; omega) _⟩
theorem Two3.new (w : World) (a b c : Array Value) : Two3 w a b c (((w.alloc (.cells a 35)).alloc (.cells b 35)).alloc (.cells c 35)) := by
  obtain ⟨b1, b2, _, hb, _⟩ := three_blks w a b b 35
  have h1 : Blk ((w.alloc (.cells a 35)).alloc (.cells b 35)) w.heap.size 35 a := (Blk.new w 35 a).alloc _
  have h2 : Blk ((w.alloc (.cells a 35)).alloc (.cells b 35)) (w.heap.size + 1) 35 b := by
    have := Blk.new (w.alloc (.cells a 35)) 35 b
    rwa [show (w.alloc (.cells a 35)).heap.size = w.heap.size + 1 by simp] at this
  have h3 := Blk.new ((w.alloc (.cells a 35)).alloc (.cells b 35)) 35 c
  rw [show ((w.alloc (.cells a 35)).alloc (.cells b 35)).heap.size = w.heap.size + 2 by simp] at h3
  exact ⟨h1.alloc _, h2.alloc _, h3, (((Below.refl _ _).alloc (Nat.le_refl _) _).alloc (by simp) _).alloc (by simp; omega) _⟩

set_option maxHeartbeats 4000000 in
set_option maxRecDepth 100000 in
theorem refAdd_any (n m : Nat) (hn : n < 2 ^ 256) (hm : m < 2 ^ 256) (w : World) :
    Calls Tryd.prog 18 #[refV n, refV m] w fun e w' => e = .returned (refV ((n + m) % P)) ∧ Below w.heap.size w w' := by
  have hal : Tryd.prog.arrayLen 35 = 16 := by kernel_rfl
  have hel : Tryd.prog.elem 35 = 23 := by kernel_rfl
  unfold refV
  obtain ⟨cn, hcn⟩ : ∃ c, Hid (c = limF n) := ⟨_, Lib.hid rfl⟩
  obtain ⟨cm, hcm⟩ : ∃ c, Hid (c = limF m) := ⟨_, Lib.hid rfl⟩
  rw [← hcn.out, ← hcm.out]
  obtain ⟨z, hz⟩ : ∃ z, Hid (z = limF 0) := ⟨_, Lib.hid rfl⟩
  have hz0 : ∀ W, (zeroValue 35).run Tryd.prog W = .ok (.agg z) W := by
    rw [hz.out, ← zero16]; exact (zero_of_info (n := 16) (by kernel_rfl)).1
  have HM := Lib.hid hm
  have HN := Lib.hid hn
  clear hm hn
  go_enter Tryd.func18, Tryd.ntmps18
  go_wp2
  have h3 := Two3.new w cn cm z
  generalize ((w.alloc (.cells cn 35)).alloc (.cells cm 35)).alloc (.cells z 35) = W at *
  rw [hcn.out, hcm.out] at h3
  go_loopg [5] 16 (fun g iv wr => ∃ i L, iv = .int .i64 (i : Nat) ∧ g + i = 16 ∧ AddL n m i L ∧ Two3 w (u64s L) (limF m) z wr)
  case atStart => exact ⟨0, digs B n 16, rfl, rfl, AddL.zero HN.out, h3⟩
  case round =>
    obtain ⟨i, L, rfl, hg, hL, hT⟩ := hrel
    clear h3
    by_cases hlt : i < 16
    · have hx := hT.1.u64 i (by rw [hL.1]; exact hlt)
      have hy : wr.cell? ⟨w.heap.size + 1, i, none⟩ = some (.int .u64 (((digs B m 16).getD i 0 : Nat) : Int)) := hT.2.1.u64 i (by rw [digs_length]; exact hlt)
      rw [digs_at hlt] at hy
      have hf := hT.1.frozen i
      obtain ⟨s, hs⟩ := named (L.getD i 0 + m / B ^ i % B)
      have hxl := hL.2.1 i
      have hyl := lim_lt m i
      have hnl := hL.next hlt
      rw [← hs.out] at hnl
      obtain ⟨x, hX⟩ := named (L.getD i 0)
      obtain ⟨y, hY⟩ := named (m / B ^ i % B)
      rw [← hX.out] at hx hxl
      rw [← hY.out] at hy hyl
      have hxs : s = x + y := by rw [hs.out, hX.out, hY.out]
      have cs := wrap_sum x y s (by rw [hxs]; unfold M; unfold B at hyl; omega)
      have HNL := Lib.hid hnl
      have n1 := Lib.hid (hT.set i s)
      clear hT hL hnl hxs hxl hyl hz0
      go_wp2
      go_region
      have hnd := Lib.hid n1.out.drew
      clear n1
      go_wp2
      go_roundg (gk - 1)
      case measure => omega
      case rel => exact ⟨i + 1, L.set i s, by go_num, by omega, HNL.out, hnd.out⟩
    · obtain rfl : i = 16 := by omega
      obtain ⟨hl, hsm, hv⟩ := hL.done HM.out
      have hRi := Lib.hid (u64s_info hl)
      have HT := Lib.hid hT
      have HL := Lib.hid hl
      have HS := Lib.hid hsm
      clear hT hL hl hsm hz0
      go_wp2_with (first | (refine wpList_load_row rfl 35 (.tmp 2) rfl w.heap.size rfl 35 (u64s L) (0, 0) _ HT.out.1 Tryd.underlying35 rfl hRi.out ?_))
      refine (fit_any L HL.out HS.out _).mono ?_
      rintro e w1 ⟨rfl, hb1⟩
      rw [hv, show u64s (digs B ((n + m) % P) 16) = limF ((n + m) % P) from rfl]
      have HT1 := Lib.hid (HT.out.next hb1)
      clear hb1 hv
      have hRi2 := Lib.hid (limF_info ((n + m) % P))
      have hR12 := Lib.hid (limF_one ((n + m) % P))
      have hzz : Hid (z.size = (limF ((n + m) % P)).size) := Lib.hid (by rw [hz.out, limF_size, limF_size])
      obtain ⟨R, hR⟩ : ∃ R, Hid (R = limF ((n + m) % P)) := ⟨_, Lib.hid rfl⟩
      rw [← hR.out] at hRi2 hR12 hzz ⊢
      go_wp2_with (first | (refine wpList_store_row rfl 35 (.tmp 4) (.tmp 20) rfl (w.heap.size + 2) R rfl rfl 35 z HT1.out.2.2.1 hRi2.out hzz.out hR12.out ?_))
      refine bodyPost_ret (v := .agg R) ?_ rfl ⟨by rw [hR.out], below_row HT1.out.2.2.2 (by omega) _⟩
      exact results_cell_row Tryd.results18 _ _ (w.heap.size + 2) 35 R (0, 0) _ rfl ((HT1.out.2.2.1).row R) Tryd.underlying35 rfl hRi2.out

theorem digsP : digs B P 16 = [65517, 65535, 65535, 65535, 65535, 65535, 65535, 65535, 65535, 65535, 65535, 65535, 65535, 65535, 65535, 32767] := by decide +kernel
theorem limFP : (#[.int .u64 65517, .int .u64 65535, .int .u64 65535, .int .u64 65535, .int .u64 65535, .int .u64 65535, .int .u64 65535, .int .u64 65535, .int .u64 65535, .int .u64 65535, .int .u64 65535, .int .u64 65535, .int .u64 65535, .int .u64 65535, .int .u64 65535, .int .u64 32767] : Array Value) = limF P := by
  rw [limF, digsP]; rfl

theorem limFZ : (#[.int .u64 0, .int .u64 0, .int .u64 0, .int .u64 0, .int .u64 0, .int .u64 0, .int .u64 0, .int .u64 0, .int .u64 0, .int .u64 0, .int .u64 0, .int .u64 0, .int .u64 0, .int .u64 0, .int .u64 0, .int .u64 0] : Array Value) = limF 0 := by
  rw [← zero16]; rfl

set_option maxHeartbeats 4000000 in
set_option maxRecDepth 100000 in
theorem refNeg_any (n : Nat) (hn : n < P) (w : World) :
    Calls Tryd.prog 33 #[refV n] w fun e w' => e = .returned (refV ((P - n) % P)) ∧ Below w.heap.size w w' := by
  have hal : Tryd.prog.arrayLen 35 = 16 := by kernel_rfl
  have hel : Tryd.prog.elem 35 = 23 := by kernel_rfl
  unfold refV
  obtain ⟨cn, hcn⟩ : ∃ c, Hid (c = limF n) := ⟨_, Lib.hid rfl⟩
  rw [← hcn.out]
  obtain ⟨z, hz⟩ : ∃ z, Hid (z = limF 0) := ⟨_, Lib.hid rfl⟩
  have HN := Lib.hid hn
  have HN2 : Hid (n < 2 ^ 256) := Lib.hid (Nat.lt_trans hn (by decide))
  clear hn
  go_enter Tryd.func33, Tryd.ntmps33
  go_wp2
  rw [limFP, limFZ, ← hz.out]
  have h3 := Two3.new w cn z (limF P)
  generalize ((w.alloc (.cells cn 35)).alloc (.cells z 35)).alloc (.cells (limF P) 35) = W at *
  rw [hcn.out] at h3
  obtain ⟨zp, hzp⟩ : ∃ zp, Hid (zp = limF P) := ⟨_, Lib.hid rfl⟩
  rw [← hzp.out]
  go_loopg [4, 5] 16 (fun g bv iv wr => ∃ i b L, bv = .int .u64 (b : Nat) ∧ iv = .int .i64 (i : Nat) ∧ g + i = 16 ∧ NegL n i b L ∧ Two3 w (u64s L) z (limF P) wr)
  case atStart => exact ⟨0, 0, digs B n 16, rfl, rfl, rfl, NegL.zero HN2.out, h3⟩
  case round =>
    obtain ⟨i, b, L, rfl, rfl, hg, hL, hT⟩ := hrel
    clear h3
    by_cases hlt : i < 16
    · have hx := hT.1.u64 i (by rw [hL.1]; exact hlt)
      have hy : wr.cell? ⟨w.heap.size + 2, i, none⟩ = some (.int .u64 (((digs B P 16).getD i 0 : Nat) : Int)) := hT.2.2.1.u64 i (by rw [digs_length]; exact hlt)
      rw [digs_at hlt] at hy
      have hf := hT.1.frozen i
      have hxl : L.getD i 0 < B := hL.2.1.getD (by decide) i
      have hyl := lim_lt P i
      have hb1 := hL.2.2.2.1
      obtain ⟨x, hX⟩ := named (L.getD i 0)
      obtain ⟨y, hY⟩ := named (P / B ^ i % B)
      rw [← hX.out] at hx hxl
      rw [← hY.out] at hy hyl
      have hxl : x ≤ 65535 := by unfold B at hxl; omega
      have hyl : y ≤ 65535 := by unfold B at hyl; omega
      obtain ⟨q1, hq1⟩ := named (y + 65536)
      obtain ⟨q2, hq2⟩ := named (q1 - x)
      obtain ⟨q3, hq3⟩ := named (q2 - b)
      obtain ⟨d, hd⟩ := named (q3 / 65536)
      obtain ⟨r, hr⟩ := named (q3 % 65536)
      obtain ⟨b2, hb2⟩ := named (1 - d)
      have c1 : IntKind.u64.wrap ((y : Int) + 65536) = (q1 : Int) := by rw [IntKind.wrap_u64, hq1.out]; omega
      have c2 : IntKind.u64.wrap ((q1 : Int) - (x : Int)) = (q2 : Int) := by rw [IntKind.wrap_u64, hq2.out, hq1.out]; omega
      have c3 : IntKind.u64.wrap ((q2 : Int) - (b : Int)) = (q3 : Int) := by rw [IntKind.wrap_u64, hq3.out, hq2.out, hq1.out]; omega
      have c4 : IntKind.u64.wrap (1 - (d : Int)) = (b2 : Int) := by rw [IntKind.wrap_u64, hb2.out, hd.out, hq3.out, hq2.out, hq1.out]; omega
      have c5 : IntKind.u64.wrap (d : Int) = (d : Int) := by rw [IntKind.wrap_u64, hd.out, hq3.out, hq2.out, hq1.out]; omega
      have d1 : (q3 : Int) / 65536 = (d : Int) := by rw [hd.out]; omega
      have d2 : (q3 : Int).tdiv 65536 = (d : Int) := by rw [Int.tdiv_eq_ediv_of_nonneg (by omega)]; omega
      have d3 : (q3 : Int) % 65536 = (r : Int) := by rw [hr.out]; omega
      have d4 : (q3 : Int).tmod 65536 = (r : Int) := by rw [Int.tmod_eq_emod_of_nonneg (by omega)]; omega
      have hnl : NegL n (i + 1) b2 (L.set i r) := by
        have := hL.next (n := q3) hlt (by rw [← hX.out, ← hY.out, hq3.out, hq2.out, hq1.out]; omega)
        rw [hb2.out, hd.out, hr.out]; exact this
      have HNL := Lib.hid hnl
      have n1 := Lib.hid (hT.drew.set i r)
      clear hT hL hnl hxl hyl hb1
      go_wp2
      go_region
      go_wp2
      go_roundg (gk - 1)
      case measure => omega
      case rel => exact ⟨i + 1, b2, L.set i r, rfl, by go_num, by omega, HNL.out, n1.out⟩
    · obtain rfl : i = 16 := by omega
      obtain ⟨hl, hsm, hv⟩ := hL.done HN.out
      have hRi := Lib.hid (u64s_info hl)
      have HT := Lib.hid hT
      have HL := Lib.hid hl
      have HS := Lib.hid hsm
      clear hT hL hl hsm
      go_wp2_with (first | (refine wpList_load_row rfl 35 (.tmp 1) rfl w.heap.size rfl 35 (u64s L) (0, 0) _ HT.out.1 Tryd.underlying35 rfl hRi.out ?_))
      refine (fit_any L HL.out HS.out _).mono ?_
      rintro e w1 ⟨rfl, hb1⟩
      rw [hv, show u64s (digs B ((P - n) % P) 16) = limF ((P - n) % P) from rfl]
      have HT1 := Lib.hid (HT.out.next hb1)
      clear hb1 hv
      have hRi2 := Lib.hid (limF_info ((P - n) % P))
      have hR12 := Lib.hid (limF_one ((P - n) % P))
      have hzz : Hid (z.size = (limF ((P - n) % P)).size) := Lib.hid (by rw [hz.out, limF_size, limF_size])
      obtain ⟨R, hR⟩ : ∃ R, Hid (R = limF ((P - n) % P)) := ⟨_, Lib.hid rfl⟩
      rw [← hR.out] at hRi2 hR12 hzz ⊢
      go_wp2_with (first | (refine wpList_store_row rfl 35 (.tmp 2) (.tmp 30) rfl (w.heap.size + 1) R rfl rfl 35 z HT1.out.2.1 hRi2.out hzz.out hR12.out ?_))
      refine bodyPost_ret (v := .agg R) ?_ rfl ⟨by rw [hR.out], below_row HT1.out.2.2.2 (by omega) _⟩
      exact results_cell_row Tryd.results33 _ _ (w.heap.size + 1) 35 R (0, 0) _ rfl ((HT1.out.2.1).row R) Tryd.underlying35 rfl hRi2.out

set_option maxHeartbeats 4000000 in
set_option maxRecDepth 100000 in
theorem refSub_any (n m : Nat) (hn : n < 2 ^ 256) (hm : m < P) (w : World) :
    Calls Tryd.prog 20 #[refV n, refV m] w fun e w' => e = .returned (refV ((n + (P - m) % P) % P)) ∧ Below w.heap.size w w' := by
  unfold refV
  obtain ⟨cn, hcn⟩ : ∃ c, Hid (c = limF n) := ⟨_, Lib.hid rfl⟩
  obtain ⟨cm, hcm⟩ : ∃ c, Hid (c = limF m) := ⟨_, Lib.hid rfl⟩
  rw [← hcn.out, ← hcm.out]
  obtain ⟨z, hz⟩ : ∃ z, Hid (z = limF 0) := ⟨_, Lib.hid rfl⟩
  have hz0 : ∀ W, (zeroValue 35).run Tryd.prog W = .ok (.agg z) W := by
    rw [hz.out, ← zero16]; exact (zero_of_info (n := 16) (by kernel_rfl)).1
  have HM := Lib.hid hm
  have HN := Lib.hid hn
  clear hm hn
  have hN : ∀ W, Calls Tryd.prog 33 #[.agg cm] W fun e w' => e = .returned (.agg (limF ((P - m) % P))) ∧ Below W.heap.size W w' := fun W => by rw [hcm.out]; exact refNeg_any m HM.out W
  have hA : ∀ W, Calls Tryd.prog 18 #[.agg cn, .agg (limF ((P - m) % P))] W fun e w' => e = .returned (.agg (limF ((n + (P - m) % P) % P))) ∧ Below W.heap.size W w' := fun W => by
    rw [hcn.out]; exact refAdd_any n ((P - m) % P) HN.out (Nat.lt_trans (Nat.mod_lt _ (by decide)) (by decide)) W
  have CN := Lib.hid hN
  have CA := Lib.hid hA
  have hni : Hid ((Tryd.prog.info? 35).map (·.size) = some cn.size) := by rw [hcn.out]; exact Lib.hid (limF_info n)
  have hmi : Hid ((Tryd.prog.info? 35).map (·.size) = some cm.size) := by rw [hcm.out]; exact Lib.hid (limF_info m)
  have hRi2 : Hid ((Tryd.prog.info? 35).map (·.size) = some (limF ((n + (P - m) % P) % P)).size) := Lib.hid (limF_info _)
  have hR12 : Hid ((limF ((n + (P - m) % P) % P)).all (·.oneCell') = true) := Lib.hid (limF_one _)
  have hzz : Hid (z.size = (limF ((n + (P - m) % P) % P)).size) := Lib.hid (by rw [hz.out, limF_size, limF_size])
  generalize limF ((n + (P - m) % P) % P) = R at *
  clear hN hA
  obtain ⟨Y, hY⟩ : ∃ Y, Hid (Y = limF ((P - m) % P)) := ⟨_, Lib.hid rfl⟩
  rw [← hY.out] at CN CA
  go_enter Tryd.func20, Tryd.ntmps20
  go_wp2_with fail
  have h3 := Two3.new w cn cm z
  generalize ((w.alloc (.cells cn 35)).alloc (.cells cm 35)).alloc (.cells z 35) = W at *
  have H3 := Lib.hid h3.drew
  refine wp_region_held_drew (S := fun W => Blk W w.heap.size 35 cn ∧ Blk W (w.heap.size + 1) 35 cm) (by kernel_rfl) ⟨h3.1.drew, h3.2.1.drew⟩ (fun hHeld => ?_)
  clear h3 hz0
  generalize W.drew = W0 at *
  refine' wpAnyH_take (i := 0) (oi := _) (v := .agg cn) ?hit0 ?hst0 ?hft0 ?hrt0 ?hQt0 ?hyt0 ?hSt0 ?_
  case hit0 => (simp only [List.getElem?_toArray, List.getElem?_cons_succ, List.getElem?_cons_zero]; rfl)
  case hst0 => kernel_rfl
  case hft0 => kernel_rfl
  case hrt0 => kernel_rfl
  case hQt0 => exact fun _ _ _ h => h
  case hSt0 => assumption
  case hyt0 =>
    refine Or.inl ⟨by rfl, ?_⟩
    intro W hS
    exact quiet_load_row 35 (.tmp 2) _ rfl 35 cn _ hS.1 Tryd.underlying35 rfl hni.out rfl
  (try simp only [Act.put, List.setIfInBounds_toArray, List.set_cons_zero, List.set_cons_succ])
  refine' wpAnyH_take (i := 1) (oi := _) (v := .agg cm) ?hit1 ?hst1 ?hft1 ?hrt1 ?hQt1 ?hyt1 ?hSt1 ?_
  case hit1 => (simp only [List.getElem?_toArray, List.getElem?_cons_succ, List.getElem?_cons_zero]; rfl)
  case hst1 => kernel_rfl
  case hft1 => kernel_rfl
  case hrt1 => kernel_rfl
  case hQt1 => exact fun _ _ _ h => h
  case hSt1 => assumption
  case hyt1 =>
    refine Or.inl ⟨by rfl, ?_⟩
    intro W hS
    exact quiet_load_row 35 (.tmp 3) _ rfl 35 cm _ hS.2 Tryd.underlying35 rfl hmi.out rfl
  (try simp only [Act.put, List.setIfInBounds_toArray, List.set_cons_zero, List.set_cons_succ])
  refine wpAnyH_ready (rs := [2]) (by kernel_rfl) (by simp) ?_
  refine' AllReadyH.cons (o := _) ?hir2 (fun K hK => ?_) AllReadyH.nil
  case hir2 => (simp only [List.getElem?_toArray, List.getElem?_cons_succ, List.getElem?_cons_zero]; rfl)
  go_simp
  refine (CN.out _).mono ?_
  rintro e w4 ⟨rfl, hb4⟩
  have H4 := Lib.hid (H3.out.next hb4)
  clear hb4
  go_wp2_with fail
  refine hK.out _ _ ?_ (fun hHeld => ?_)
  exact ⟨H4.out.1, H4.out.2.1⟩
  clear hK K
  (try simp only [Act.put, List.setIfInBounds_toArray, List.set_cons_zero, List.set_cons_succ])
  refine wpAnyH_ready (rs := [3]) (by kernel_rfl) (by simp) ?_
  refine' AllReadyH.cons (o := _) ?hir3 (fun K hK => ?_) AllReadyH.nil
  case hir3 => (simp only [List.getElem?_toArray, List.getElem?_cons_succ, List.getElem?_cons_zero]; rfl)
  go_simp
  refine (CA.out _).mono ?_
  rintro e w5 ⟨rfl, hb5⟩
  have H5 := Lib.hid (H4.out.next hb5)
  clear hb5
  go_wp2_with fail
  refine hK.out _ _ ?_ (fun hHeld => ?_)
  exact ⟨H5.out.1, H5.out.2.1⟩
  clear hK K
  (try simp only [Act.put, List.setIfInBounds_toArray, List.set_cons_zero, List.set_cons_succ])
  refine wpAnyH_ready (rs := [4]) (by kernel_rfl) (by simp) ?_
  refine' AllReadyH.cons (o := _) ?hir4 (fun K hK => ?_) AllReadyH.nil
  case hir4 => (simp only [List.getElem?_toArray, List.getElem?_cons_succ, List.getElem?_cons_zero]; rfl)
  refine step_of_wp rfl ?_
  refine wp_store_row 35 (.tmp 4) (.tmp 8) rfl (w.heap.size + 2) R rfl rfl 35 z H5.out.2.2.1 hRi2.out hzz.out hR12.out ?_
  refine hK.out _ _ ?_ (fun hHeld => ?_)
  exact ⟨H5.out.1.rowFar (by omega) _, H5.out.2.1.rowFar (by omega) _⟩
  clear hK K
  (try simp only [Act.put, List.setIfInBounds_toArray, List.set_cons_zero, List.set_cons_succ])
  refine wpAnyH_done (by kernel_rfl) ?_ _
  have hfin := H5.out.2.2.1.row R
  have hbel := Lib.hid (below_row H5.out.2.2.2 (show w.heap.size ≤ w.heap.size + 2 by omega) R)
  generalize w5.setRow (w.heap.size + 2) R = W5 at *
  have HFIN := Lib.hid hfin
  clear hfin hHeld
  go_wp2
  refine bodyPost_ret (v := .agg R) ?_ rfl ⟨rfl, hbel.out⟩
  exact results_cell_row Tryd.results20 _ _ (w.heap.size + 2) 35 R (0, 0) _ rfl HFIN.out Tryd.underlying35 rfl hRi2.out
end Go.Proofs.YtphlehinjooncaaDoor
