/-
  Several texts in one: FldRefA, FldRefMul, FldPow, FldGet, FldRoot, FldSame, FldTwo, FldRefPow, FldRefRoot, PtF, PtRef1, PtRoot, PtVal, PtZero, PtRef2. Conditions: those that each theorem states.
-/
import Derived.Test.YtjiadbaaggifpaaDoorM1
import Derived.Deep.DeepCutAuto
import Derived.Deep.CutBlock

section
set_option linter.unusedVariables false
set_option linter.unusedSimpArgs false
namespace Go.Proofs.YtjiadbaaggifpaaDoor
open Go Go.Proofs Go.RowKit F5

/-- Three new blocks of limbs. -/
def Two3 (w : World) (a b c : Array Value) (wr : World) : Prop :=
  Blk wr w.heap.size 35 a ∧ Blk wr (w.heap.size + 1) 35 b ∧ Blk wr (w.heap.size + 2) 35 c ∧ Below w.heap.size w wr
theorem Two3.drew {w wr : World} {a b c : Array Value} (h : Two3 w a b c wr) : Two3 w a b c wr.drew := ⟨h.1.drew, h.2.1.drew, h.2.2.1.drew, h.2.2.2.drew⟩
theorem Two3.next {w wr w' : World} {a b c : Array Value} (h : Two3 w a b c wr) (hb : Below wr.heap.size wr w') : Two3 w a b c w' :=
  ⟨h.1.old hb, h.2.1.old hb, h.2.2.1.old hb, h.2.2.2.trans (hb.mono h.2.2.2.size)⟩
theorem Two3.set {w wr : World} {L : List Nat} {b c : Array Value} (h : Two3 w (u64s L) b c wr) (i s : Nat) : Two3 w (u64s (L.set i s)) b c (wr.setCell ⟨w.heap.size, i, none⟩ (.int .u64 (s : Int))) :=
  ⟨h.1.u64set i s, h.2.1.far (by show w.heap.size + 1 ≠ w.heap.size; omega) _, h.2.2.1.far (by show w.heap.size + 2 ≠ w.heap.size; omega) _, h.2.2.2.setCell (by show w.heap.size ≤ w.heap.size; omega) _⟩
theorem Two3.new (w : World) (a b c : Array Value) : Two3 w a b c (((w.alloc (.cells a 35)).alloc (.cells b 35)).alloc (.cells c 35)) := by
  obtain ⟨b1, b2, _, hb, _⟩ := three_blks w a b b 35
  have h1 : Blk ((w.alloc (.cells a 35)).alloc (.cells b 35)) w.heap.size 35 a := (Blk.new w 35 a).alloc _
  have h2 : Blk ((w.alloc (.cells a 35)).alloc (.cells b 35)) (w.heap.size + 1) 35 b := by
    have := Blk.new (w.alloc (.cells a 35)) 35 b
    rwa [show (w.alloc (.cells a 35)).heap.size = w.heap.size + 1 by simp] at this
  have h3 := Blk.new ((w.alloc (.cells a 35)).alloc (.cells b 35)) 35 c
  rw [show ((w.alloc (.cells a 35)).alloc (.cells b 35)).heap.size = w.heap.size + 2 by simp] at h3
  exact ⟨h1.alloc _, h2.alloc _, h3, (((Below.refl _ _).alloc (Nat.le_refl _) _).alloc (by simp) _).alloc (by simp; omega) _⟩

set_option maxHeartbeats 4000000 in
set_option maxRecDepth 100000 in
theorem refAdd_any (n m : Nat) (hn : n < 2 ^ 256) (hm : m < 2 ^ 256) (w : World) :
    Calls Tryd.prog 60 #[refV n, refV m] w fun e w' => e = .returned (refV ((n + m) % P)) ∧ Below w.heap.size w w' := by
  have hal : Tryd.prog.arrayLen 35 = 16 := by kernel_rfl
  have hel : Tryd.prog.elem 35 = 24 := by kernel_rfl
  unfold refV
  obtain ⟨cn, hcn⟩ : ∃ c, Hid (c = limF n) := ⟨_, Lib.hid rfl⟩
  obtain ⟨cm, hcm⟩ : ∃ c, Hid (c = limF m) := ⟨_, Lib.hid rfl⟩
  rw [← hcn.out, ← hcm.out]
  obtain ⟨z, hz⟩ : ∃ z, Hid (z = limF 0) := ⟨_, Lib.hid rfl⟩
  have hz0 : ∀ W, (zeroValue 35).run Tryd.prog W = .ok (.agg z) W := by
    rw [hz.out, ← zero16]; exact (zero_of_info (n := 16) (by kernel_rfl)).1
  have HM := Lib.hid hm
  have HN := Lib.hid hn
  clear hm hn
  go_enter Tryd.func60, Tryd.ntmps60
  go_wp2
  have h3 := Two3.new w cn cm z
  generalize ((w.alloc (.cells cn 35)).alloc (.cells cm 35)).alloc (.cells z 35) = W at *
  rw [hcn.out, hcm.out] at h3
  go_loopg [5] 16 (fun g iv wr => ∃ i L, iv = .int .i64 (i : Nat) ∧ g + i = 16 ∧ AddL n m i L ∧ Two3 w (u64s L) (limF m) z wr)
  case atStart => exact ⟨0, digs B n 16, rfl, rfl, AddL.zero HN.out, h3⟩
  case round =>
    obtain ⟨i, L, rfl, hg, hL, hT⟩ := hrel
    clear h3
    by_cases hlt : i < 16
    · have hx := hT.1.u64 i (by rw [hL.1]; exact hlt)
      have hy : wr.cell? ⟨w.heap.size + 1, i, none⟩ = some (.int .u64 (((digs B m 16).getD i 0 : Nat) : Int)) := hT.2.1.u64 i (by rw [digs_length]; exact hlt)
      rw [digs_at hlt] at hy
      have hf := hT.1.frozen i
      obtain ⟨s, hs⟩ := named (L.getD i 0 + m / B ^ i % B)
      have hxl := hL.2.1 i
      have hyl := lim_lt m i
      have hnl := hL.next hlt
      rw [← hs.out] at hnl
      obtain ⟨x, hX⟩ := named (L.getD i 0)
      obtain ⟨y, hY⟩ := named (m / B ^ i % B)
      rw [← hX.out] at hx hxl
      rw [← hY.out] at hy hyl
      have hxs : s = x + y := by rw [hs.out, hX.out, hY.out]
      have cs := wrap_sum x y s (by rw [hxs]; unfold M; unfold B at hyl; omega)
      have HNL := Lib.hid hnl
      have n1 := Lib.hid (hT.set i s)
      clear hT hL hnl hxs hxl hyl hz0
      go_wp2
      go_region
      have hnd := Lib.hid n1.out.drew
      clear n1
      go_wp2
      go_roundg (gk - 1)
      case measure => omega
      case rel => exact ⟨i + 1, L.set i s, by go_num, by omega, HNL.out, hnd.out⟩
    · obtain rfl : i = 16 := by omega
      obtain ⟨hl, hsm, hv⟩ := hL.done HM.out
      have hRi := Lib.hid (u64s_info hl)
      have HT := Lib.hid hT
      have HL := Lib.hid hl
      have HS := Lib.hid hsm
      clear hT hL hl hsm hz0
      go_wp2_with (first | (refine wpList_load_row rfl 35 (.tmp 2) rfl w.heap.size rfl 35 (u64s L) (0, 0) _ HT.out.1 Tryd.underlying35 rfl hRi.out ?_))
      refine (fit_any L HL.out HS.out _).mono ?_
      rintro e w1 ⟨rfl, hb1⟩
      rw [hv, show u64s (digs B ((n + m) % P) 16) = limF ((n + m) % P) from rfl]
      have HT1 := Lib.hid (HT.out.next hb1)
      clear hb1 hv
      have hRi2 := Lib.hid (limF_info ((n + m) % P))
      have hR12 := Lib.hid (limF_one ((n + m) % P))
      have hzz : Hid (z.size = (limF ((n + m) % P)).size) := Lib.hid (by rw [hz.out, limF_size, limF_size])
      obtain ⟨R, hR⟩ : ∃ R, Hid (R = limF ((n + m) % P)) := ⟨_, Lib.hid rfl⟩
      rw [← hR.out] at hRi2 hR12 hzz ⊢
      go_wp2_with (first | (refine wpList_store_row rfl 35 (.tmp 4) (.tmp 20) rfl (w.heap.size + 2) R rfl rfl 35 z HT1.out.2.2.1 hRi2.out hzz.out hR12.out ?_))
      refine bodyPost_ret (v := .agg R) ?_ rfl ⟨by rw [hR.out], below_row HT1.out.2.2.2 (by omega) _⟩
      exact results_cell_row Tryd.results60 _ _ (w.heap.size + 2) 35 R (0, 0) _ rfl ((HT1.out.2.2.1).row R) Tryd.underlying35 rfl hRi2.out

theorem digsP : digs B P 16 = [65517, 65535, 65535, 65535, 65535, 65535, 65535, 65535, 65535, 65535, 65535, 65535, 65535, 65535, 65535, 32767] := by decide +kernel
theorem limFP : (#[.int .u64 65517, .int .u64 65535, .int .u64 65535, .int .u64 65535, .int .u64 65535, .int .u64 65535, .int .u64 65535, .int .u64 65535, .int .u64 65535, .int .u64 65535, .int .u64 65535, .int .u64 65535, .int .u64 65535, .int .u64 65535, .int .u64 65535, .int .u64 32767] : Array Value) = limF P := by
  rw [limF, digsP]; rfl

theorem limFZ : (#[.int .u64 0, .int .u64 0, .int .u64 0, .int .u64 0, .int .u64 0, .int .u64 0, .int .u64 0, .int .u64 0, .int .u64 0, .int .u64 0, .int .u64 0, .int .u64 0, .int .u64 0, .int .u64 0, .int .u64 0, .int .u64 0] : Array Value) = limF 0 := by
  rw [← zero16]; rfl

set_option maxHeartbeats 4000000 in
set_option maxRecDepth 100000 in
theorem refNeg_any (n : Nat) (hn : n < P) (w : World) :
    Calls Tryd.prog 35 #[refV n] w fun e w' => e = .returned (refV ((P - n) % P)) ∧ Below w.heap.size w w' := by
  have hal : Tryd.prog.arrayLen 35 = 16 := by kernel_rfl
  have hel : Tryd.prog.elem 35 = 24 := by kernel_rfl
  unfold refV
  obtain ⟨cn, hcn⟩ : ∃ c, Hid (c = limF n) := ⟨_, Lib.hid rfl⟩
  rw [← hcn.out]
  obtain ⟨z, hz⟩ : ∃ z, Hid (z = limF 0) := ⟨_, Lib.hid rfl⟩
  have HN := Lib.hid hn
  have HN2 : Hid (n < 2 ^ 256) := Lib.hid (Nat.lt_trans hn (by decide))
  clear hn
  go_enter Tryd.func35, Tryd.ntmps35
  go_wp2
  rw [limFP, limFZ, ← hz.out]
  have h3 := Two3.new w cn z (limF P)
  generalize ((w.alloc (.cells cn 35)).alloc (.cells z 35)).alloc (.cells (limF P) 35) = W at *
  rw [hcn.out] at h3
  obtain ⟨zp, hzp⟩ : ∃ zp, Hid (zp = limF P) := ⟨_, Lib.hid rfl⟩
  rw [← hzp.out]
  go_loopg [4, 5] 16 (fun g bv iv wr => ∃ i b L, bv = .int .u64 (b : Nat) ∧ iv = .int .i64 (i : Nat) ∧ g + i = 16 ∧ NegL n i b L ∧ Two3 w (u64s L) z (limF P) wr)
  case atStart => exact ⟨0, 0, digs B n 16, rfl, rfl, rfl, NegL.zero HN2.out, h3⟩
  case round =>
    obtain ⟨i, b, L, rfl, rfl, hg, hL, hT⟩ := hrel
    clear h3
    by_cases hlt : i < 16
    · have hx := hT.1.u64 i (by rw [hL.1]; exact hlt)
      have hy : wr.cell? ⟨w.heap.size + 2, i, none⟩ = some (.int .u64 (((digs B P 16).getD i 0 : Nat) : Int)) := hT.2.2.1.u64 i (by rw [digs_length]; exact hlt)
      rw [digs_at hlt] at hy
      have hf := hT.1.frozen i
      have hxl : L.getD i 0 < B := hL.2.1.getD (by decide) i
      have hyl := lim_lt P i
      have hb1 := hL.2.2.2.1
      obtain ⟨x, hX⟩ := named (L.getD i 0)
      obtain ⟨y, hY⟩ := named (P / B ^ i % B)
      rw [← hX.out] at hx hxl
      rw [← hY.out] at hy hyl
      have hxl : x ≤ 65535 := by unfold B at hxl; omega
      have hyl : y ≤ 65535 := by unfold B at hyl; omega
      obtain ⟨q1, hq1⟩ := named (y + 65536)
      obtain ⟨q2, hq2⟩ := named (q1 - x)
      obtain ⟨q3, hq3⟩ := named (q2 - b)
      obtain ⟨d, hd⟩ := named (q3 / 65536)
      obtain ⟨r, hr⟩ := named (q3 % 65536)
      obtain ⟨b2, hb2⟩ := named (1 - d)
      have c1 : IntKind.u64.wrap ((y : Int) + 65536) = (q1 : Int) := by rw [IntKind.wrap_u64, hq1.out]; omega
      have c2 : IntKind.u64.wrap ((q1 : Int) - (x : Int)) = (q2 : Int) := by rw [IntKind.wrap_u64, hq2.out, hq1.out]; omega
      have c3 : IntKind.u64.wrap ((q2 : Int) - (b : Int)) = (q3 : Int) := by rw [IntKind.wrap_u64, hq3.out, hq2.out, hq1.out]; omega
      have c4 : IntKind.u64.wrap (1 - (d : Int)) = (b2 : Int) := by rw [IntKind.wrap_u64, hb2.out, hd.out, hq3.out, hq2.out, hq1.out]; omega
      have c5 : IntKind.u64.wrap (d : Int) = (d : Int) := by rw [IntKind.wrap_u64, hd.out, hq3.out, hq2.out, hq1.out]; omega
      have d1 : (q3 : Int) / 65536 = (d : Int) := by rw [hd.out]; omega
      have d2 : (q3 : Int).tdiv 65536 = (d : Int) := by rw [Int.tdiv_eq_ediv_of_nonneg (by omega)]; omega
      have d3 : (q3 : Int) % 65536 = (r : Int) := by rw [hr.out]; omega
      have d4 : (q3 : Int).tmod 65536 = (r : Int) := by rw [Int.tmod_eq_emod_of_nonneg (by omega)]; omega
      have hnl : NegL n (i + 1) b2 (L.set i r) := by
        have := hL.next (n := q3) hlt (by rw [← hX.out, ← hY.out, hq3.out, hq2.out, hq1.out]; omega)
        rw [hb2.out, hd.out, hr.out]; exact this
      have HNL := Lib.hid hnl
      have n1 := Lib.hid (hT.drew.set i r)
      clear hT hL hnl hxl hyl hb1
      go_wp2
      go_region
      go_wp2
      go_roundg (gk - 1)
      case measure => omega
      case rel => exact ⟨i + 1, b2, L.set i r, rfl, by go_num, by omega, HNL.out, n1.out⟩
    · obtain rfl : i = 16 := by omega
      obtain ⟨hl, hsm, hv⟩ := hL.done HN.out
      have hRi := Lib.hid (u64s_info hl)
      have HT := Lib.hid hT
      have HL := Lib.hid hl
      have HS := Lib.hid hsm
      clear hT hL hl hsm
      go_wp2_with (first | (refine wpList_load_row rfl 35 (.tmp 1) rfl w.heap.size rfl 35 (u64s L) (0, 0) _ HT.out.1 Tryd.underlying35 rfl hRi.out ?_))
      refine (fit_any L HL.out HS.out _).mono ?_
      rintro e w1 ⟨rfl, hb1⟩
      rw [hv, show u64s (digs B ((P - n) % P) 16) = limF ((P - n) % P) from rfl]
      have HT1 := Lib.hid (HT.out.next hb1)
      clear hb1 hv
      have hRi2 := Lib.hid (limF_info ((P - n) % P))
      have hR12 := Lib.hid (limF_one ((P - n) % P))
      have hzz : Hid (z.size = (limF ((P - n) % P)).size) := Lib.hid (by rw [hz.out, limF_size, limF_size])
      obtain ⟨R, hR⟩ : ∃ R, Hid (R = limF ((P - n) % P)) := ⟨_, Lib.hid rfl⟩
      rw [← hR.out] at hRi2 hR12 hzz ⊢
      go_wp2_with (first | (refine wpList_store_row rfl 35 (.tmp 2) (.tmp 30) rfl (w.heap.size + 1) R rfl rfl 35 z HT1.out.2.1 hRi2.out hzz.out hR12.out ?_))
      refine bodyPost_ret (v := .agg R) ?_ rfl ⟨by rw [hR.out], below_row HT1.out.2.2.2 (by omega) _⟩
      exact results_cell_row Tryd.results35 _ _ (w.heap.size + 1) 35 R (0, 0) _ rfl ((HT1.out.2.1).row R) Tryd.underlying35 rfl hRi2.out

set_option maxHeartbeats 4000000 in
set_option maxRecDepth 100000 in
theorem refSub_any (n m : Nat) (hn : n < 2 ^ 256) (hm : m < P) (w : World) :
    Calls Tryd.prog 61 #[refV n, refV m] w fun e w' => e = .returned (refV ((n + (P - m) % P) % P)) ∧ Below w.heap.size w w' := by
  unfold refV
  obtain ⟨cn, hcn⟩ : ∃ c, Hid (c = limF n) := ⟨_, Lib.hid rfl⟩
  obtain ⟨cm, hcm⟩ : ∃ c, Hid (c = limF m) := ⟨_, Lib.hid rfl⟩
  rw [← hcn.out, ← hcm.out]
  obtain ⟨z, hz⟩ : ∃ z, Hid (z = limF 0) := ⟨_, Lib.hid rfl⟩
  have hz0 : ∀ W, (zeroValue 35).run Tryd.prog W = .ok (.agg z) W := by
    rw [hz.out, ← zero16]; exact (zero_of_info (n := 16) (by kernel_rfl)).1
  have HM := Lib.hid hm
  have HN := Lib.hid hn
  clear hm hn
  have hN : ∀ W, Calls Tryd.prog 35 #[.agg cm] W fun e w' => e = .returned (.agg (limF ((P - m) % P))) ∧ Below W.heap.size W w' := fun W => by rw [hcm.out]; exact refNeg_any m HM.out W
  have hA : ∀ W, Calls Tryd.prog 60 #[.agg cn, .agg (limF ((P - m) % P))] W fun e w' => e = .returned (.agg (limF ((n + (P - m) % P) % P))) ∧ Below W.heap.size W w' := fun W => by
    rw [hcn.out]; exact refAdd_any n ((P - m) % P) HN.out (Nat.lt_trans (Nat.mod_lt _ (by decide)) (by decide)) W
  have CN := Lib.hid hN
  have CA := Lib.hid hA
  have hni : Hid ((Tryd.prog.info? 35).map (·.size) = some cn.size) := by rw [hcn.out]; exact Lib.hid (limF_info n)
  have hmi : Hid ((Tryd.prog.info? 35).map (·.size) = some cm.size) := by rw [hcm.out]; exact Lib.hid (limF_info m)
  have hRi2 : Hid ((Tryd.prog.info? 35).map (·.size) = some (limF ((n + (P - m) % P) % P)).size) := Lib.hid (limF_info _)
  have hR12 : Hid ((limF ((n + (P - m) % P) % P)).all (·.oneCell') = true) := Lib.hid (limF_one _)
  have hzz : Hid (z.size = (limF ((n + (P - m) % P) % P)).size) := Lib.hid (by rw [hz.out, limF_size, limF_size])
  generalize limF ((n + (P - m) % P) % P) = R at *
  clear hN hA
  obtain ⟨Y, hY⟩ : ∃ Y, Hid (Y = limF ((P - m) % P)) := ⟨_, Lib.hid rfl⟩
  rw [← hY.out] at CN CA
  go_enter Tryd.func61, Tryd.ntmps61
  go_wp2_with fail
  have h3 := Two3.new w cn cm z
  generalize ((w.alloc (.cells cn 35)).alloc (.cells cm 35)).alloc (.cells z 35) = W at *
  have H3 := Lib.hid h3.drew
  refine wp_region_held_drew (S := fun W => Blk W w.heap.size 35 cn ∧ Blk W (w.heap.size + 1) 35 cm) (by kernel_rfl) ⟨h3.1.drew, h3.2.1.drew⟩ (fun hHeld => ?_)
  clear h3 hz0
  generalize W.drew = W0 at *
  refine' wpAnyH_take (i := 0) (oi := _) (v := .agg cn) ?hit0 ?hst0 ?hft0 ?hrt0 ?hQt0 ?hyt0 ?hSt0 ?_
  case hit0 => (simp only [List.getElem?_toArray, List.getElem?_cons_succ, List.getElem?_cons_zero]; rfl)
  case hst0 => kernel_rfl
  case hft0 => kernel_rfl
  case hrt0 => kernel_rfl
  case hQt0 => exact fun _ _ _ h => h
  case hSt0 => assumption
  case hyt0 =>
    refine Or.inl ⟨by rfl, ?_⟩
    intro W hS
    exact quiet_load_row 35 (.tmp 2) _ rfl 35 cn _ hS.1 Tryd.underlying35 rfl hni.out rfl
  (try simp only [Act.put, List.setIfInBounds_toArray, List.set_cons_zero, List.set_cons_succ])
  refine' wpAnyH_take (i := 1) (oi := _) (v := .agg cm) ?hit1 ?hst1 ?hft1 ?hrt1 ?hQt1 ?hyt1 ?hSt1 ?_
  case hit1 => (simp only [List.getElem?_toArray, List.getElem?_cons_succ, List.getElem?_cons_zero]; rfl)
  case hst1 => kernel_rfl
  case hft1 => kernel_rfl
  case hrt1 => kernel_rfl
  case hQt1 => exact fun _ _ _ h => h
  case hSt1 => assumption
  case hyt1 =>
    refine Or.inl ⟨by rfl, ?_⟩
    intro W hS
    exact quiet_load_row 35 (.tmp 3) _ rfl 35 cm _ hS.2 Tryd.underlying35 rfl hmi.out rfl
  (try simp only [Act.put, List.setIfInBounds_toArray, List.set_cons_zero, List.set_cons_succ])
  refine wpAnyH_ready (rs := [2]) (by kernel_rfl) (by simp) ?_
  refine' AllReadyH.cons (o := _) ?hir2 (fun K hK => ?_) AllReadyH.nil
  case hir2 => (simp only [List.getElem?_toArray, List.getElem?_cons_succ, List.getElem?_cons_zero]; rfl)
  go_simp
  refine (CN.out _).mono ?_
  rintro e w4 ⟨rfl, hb4⟩
  have H4 := Lib.hid (H3.out.next hb4)
  clear hb4
  go_wp2_with fail
  refine hK.out _ _ ?_ (fun hHeld => ?_)
  exact ⟨H4.out.1, H4.out.2.1⟩
  clear hK K
  (try simp only [Act.put, List.setIfInBounds_toArray, List.set_cons_zero, List.set_cons_succ])
  refine wpAnyH_ready (rs := [3]) (by kernel_rfl) (by simp) ?_
  refine' AllReadyH.cons (o := _) ?hir3 (fun K hK => ?_) AllReadyH.nil
  case hir3 => (simp only [List.getElem?_toArray, List.getElem?_cons_succ, List.getElem?_cons_zero]; rfl)
  go_simp
  refine (CA.out _).mono ?_
  rintro e w5 ⟨rfl, hb5⟩
  have H5 := Lib.hid (H4.out.next hb5)
  clear hb5
  go_wp2_with fail
  refine hK.out _ _ ?_ (fun hHeld => ?_)
  exact ⟨H5.out.1, H5.out.2.1⟩
  clear hK K
  (try simp only [Act.put, List.setIfInBounds_toArray, List.set_cons_zero, List.set_cons_succ])
  refine wpAnyH_ready (rs := [4]) (by kernel_rfl) (by simp) ?_
  refine' AllReadyH.cons (o := _) ?hir4 (fun K hK => ?_) AllReadyH.nil
  case hir4 => (simp only [List.getElem?_toArray, List.getElem?_cons_succ, List.getElem?_cons_zero]; rfl)
  refine step_of_wp rfl ?_
  refine wp_store_row 35 (.tmp 4) (.tmp 8) rfl (w.heap.size + 2) R rfl rfl 35 z H5.out.2.2.1 hRi2.out hzz.out hR12.out ?_
  refine hK.out _ _ ?_ (fun hHeld => ?_)
  exact ⟨H5.out.1.rowFar (by omega) _, H5.out.2.1.rowFar (by omega) _⟩
  clear hK K
  (try simp only [Act.put, List.setIfInBounds_toArray, List.set_cons_zero, List.set_cons_succ])
  refine wpAnyH_done (by kernel_rfl) ?_ _
  have hfin := H5.out.2.2.1.row R
  have hbel := Lib.hid (below_row H5.out.2.2.2 (show w.heap.size ≤ w.heap.size + 2 by omega) R)
  generalize w5.setRow (w.heap.size + 2) R = W5 at *
  have HFIN := Lib.hid hfin
  clear hfin hHeld
  go_wp2
  refine bodyPost_ret (v := .agg R) ?_ rfl ⟨rfl, hbel.out⟩
  exact results_cell_row Tryd.results61 _ _ (w.heap.size + 2) 35 R (0, 0) _ rfl HFIN.out Tryd.underlying35 rfl hRi2.out
end Go.Proofs.YtjiadbaaggifpaaDoor
end

section
set_option linter.unusedVariables false
set_option linter.unusedSimpArgs false
namespace Go.Proofs.YtjiadbaaggifpaaDoor
open Go Go.Proofs Go.RowKit F5

/-- Four new blocks: both factors, the result, and the product's limbs. -/
def Four (w : World) (n m : Nat) (z : Array Value) (L : List Nat) (wr : World) : Prop :=
  Two3 w (limF n) (limF m) z wr ∧ Blk wr (w.heap.size + 3) 93 (u64s L)
theorem Four.drew {w wr : World} {n m : Nat} {z : Array Value} {L : List Nat} (h : Four w n m z L wr) : Four w n m z L wr.drew := ⟨h.1.drew, h.2.drew⟩
theorem Four.set {w wr : World} {n m : Nat} {z : Array Value} {L : List Nat} (h : Four w n m z L wr) (i s : Nat) : Four w n m z (L.set i s) (wr.setCell ⟨w.heap.size + 3, i, none⟩ (.int .u64 (s : Int))) :=
  ⟨⟨h.1.1.far (by show w.heap.size ≠ w.heap.size + 3; omega) _, h.1.2.1.far (by show w.heap.size + 1 ≠ w.heap.size + 3; omega) _, h.1.2.2.1.far (by show w.heap.size + 2 ≠ w.heap.size + 3; omega) _, h.1.2.2.2.setCell (by show w.heap.size ≤ w.heap.size + 3; omega) _⟩, h.2.u64set i s⟩
theorem Four.next {w wr w' : World} {n m : Nat} {z : Array Value} {L : List Nat} (h : Four w n m z L wr) (hb : Below wr.heap.size wr w') : Four w n m z L w' := ⟨h.1.next hb, h.2.old hb⟩
theorem heap_alloc4_new (w : World) (a b c d : Array Value) (T1 T2 : TypeId) : Blk ((((w.alloc (.cells a T1)).alloc (.cells b T1)).alloc (.cells c T1)).alloc (.cells d T2)) (w.heap.size + 3) T2 d := by
  have h := Blk.new (((w.alloc (.cells a T1)).alloc (.cells b T1)).alloc (.cells c T1)) T2 d
  rwa [show (((w.alloc (.cells a T1)).alloc (.cells b T1)).alloc (.cells c T1)).heap.size = w.heap.size + 3 by simp] at h
/-- The sum with what counts 38 times, its first i limbs done. -/
def OutAt (w : World) (n m : Nat) (z : Array Value) (L : List Nat) (g : Nat) (i : Nat) (wr : World) : Prop :=
  Four w n m z L wr ∧ Blk wr g 35 (u64s (partN (foldL L) i)) ∧ w.heap.size + 3 < g
theorem OutAt.drew {w wr : World} {n m g i : Nat} {z : Array Value} {L : List Nat} (h : OutAt w n m z L g i wr) : OutAt w n m z L g i wr.drew := ⟨h.1.drew, h.2.1.drew, h.2.2⟩
theorem Four.far {w wr : World} {n m g : Nat} {z : Array Value} {L : List Nat} (h : Four w n m z L wr) (hg : w.heap.size + 3 < g) (i : Nat) (v : Value) : Four w n m z L (wr.setCell ⟨g, i, none⟩ v) :=
  ⟨⟨h.1.1.far (by show w.heap.size ≠ g; omega) _, h.1.2.1.far (by show w.heap.size + 1 ≠ g; omega) _, h.1.2.2.1.far (by show w.heap.size + 2 ≠ g; omega) _, h.1.2.2.2.setCell (by show w.heap.size ≤ g; omega) _⟩, h.2.far (by show w.heap.size + 3 ≠ g; omega) _⟩
theorem info32u : (Tryd.prog.info? 93).map (·.size) = some 32 := by kernel_rfl

set_option maxHeartbeats 8000000 in
set_option maxRecDepth 100000 in
theorem refMul_any (n m : Nat) (hn : n < 2 ^ 256) (hm : m < 2 ^ 256) (w : World) :
    Calls Tryd.prog 49 #[refV n, refV m] w fun e w' => e = .returned (refV (n * m % P)) ∧ Below w.heap.size w w' := by
  have hal : Tryd.prog.arrayLen 35 = 16 := by kernel_rfl
  have hel : Tryd.prog.elem 35 = 24 := by kernel_rfl
  have hal2 : Tryd.prog.arrayLen 93 = 32 := by kernel_rfl
  have hel2 : Tryd.prog.elem 93 = 24 := by kernel_rfl
  unfold refV
  obtain ⟨cn, hcn⟩ : ∃ c, Hid (c = limF n) := ⟨_, Lib.hid rfl⟩
  obtain ⟨cm, hcm⟩ : ∃ c, Hid (c = limF m) := ⟨_, Lib.hid rfl⟩
  rw [← hcn.out, ← hcm.out]
  obtain ⟨z, hz⟩ : ∃ z, Hid (z = limF 0) := ⟨_, Lib.hid rfl⟩
  have hz0 : ∀ W, (zeroValue 35).run Tryd.prog W = .ok (.agg z) W := by
    rw [hz.out, ← zero16]; exact (zero_of_info (n := 16) (by kernel_rfl)).1
  obtain ⟨z2, hz2⟩ : ∃ z, Hid (z = u64s (List.replicate 32 0)) := ⟨_, Lib.hid rfl⟩
  have hz20 : ∀ W, (zeroValue 93).run Tryd.prog W = .ok (.agg z2) W := by
    rw [hz2.out]; exact (zero_of_info (n := 32) (by kernel_rfl)).1
  have hzi : Hid ((Tryd.prog.info? 35).map (·.size) = some z.size) := by rw [hz.out]; exact Lib.hid (limF_info 0)
  have hz1 : Hid (z.all (·.oneCell') = true) := by rw [hz.out]; exact Lib.hid (limF_one 0)
  have hzi2 : Hid ((Tryd.prog.info? 93).map (·.size) = some z2.size) := by rw [hz2.out, u64s_size]; exact Lib.hid info32u
  have hz12 : Hid (z2.all (·.oneCell') = true) := by rw [hz2.out]; exact Lib.hid (u64s_one _)
  have HM := Lib.hid hm
  have HN := Lib.hid hn
  have h3 : Four w n m z (List.replicate 32 0) ((((w.alloc (.cells cn 35)).alloc (.cells cm 35)).alloc (.cells z 35)).alloc (.cells z2 93)) := by
    have h := Two3.new w cn cm z
    have h2 := heap_alloc4_new w cn cm z z2 35 93
    rw [hcn.out, hcm.out] at h h2 ⊢
    refine ⟨h.next ((Below.refl _ _).alloc (Nat.le_refl _) _), ?_⟩
    rw [← hz2.out]; exact h2
  have H3 := Lib.hid h3
  clear hm hn h3
  go_enter Tryd.func49, Tryd.ntmps49
  go_wp2_with (first | (refine wpList_store_row rfl 93 (.tmp 5) (.tmp 10) rfl (w.heap.size + 3) z2 rfl rfl 93 z2 (heap_alloc4_new w _ _ _ _ _ _) hzi2.out rfl hz12.out ?_; rw [setRow_self (heap_alloc4_new w _ _ _ _ _ _)]))
  generalize (((w.alloc (.cells cn 35)).alloc (.cells cm 35)).alloc (.cells z 35)).alloc (.cells z2 93) = W at *
  clear hz20
  go_loopg [6] 16 (fun g iv wr => ∃ i L, iv = .int .i64 (i : Nat) ∧ g + i = 16 ∧ MulL n m i 0 L ∧ Four w n m z L wr)
  case atStart => exact ⟨0, _, rfl, rfl, MulL.zero, H3.out⟩
  case round =>
    obtain ⟨i, L, rfl, hg, hL, hT⟩ := hrel
    clear H3
    by_cases hlt : i < 16
    · obtain ⟨G, hG⟩ : ∃ G, Hid (gk = G + 1 ∧ G + (i + 1) = 16) := ⟨gk - 1, Lib.hid ⟨by omega, by omega⟩⟩
      have HL := Lib.hid hL
      have HT := Lib.hid hT
      clear hL hT hg hz0
      go_wp2
      go_loopg [7] 16 (fun g kv w1 => ∃ k L1, kv = .int .i64 (k : Nat) ∧ g + k = 16 ∧ MulL n m i k L1 ∧ Four w n m z L1 w1)
      case atStart => exact ⟨0, L, rfl, rfl, HL.out, HT.out⟩
      case round =>
        obtain ⟨k, L1, rfl, hgk, hL1, hT1⟩ := hrel
        clear HL HT
        by_cases hk : k < 16
        · have ha := hT1.2.u64 (i + k) (by rw [hL1.1]; omega)
          have hx : wr.cell? ⟨w.heap.size, i, none⟩ = some (.int .u64 (((digs B n 16).getD i 0 : Nat) : Int)) := hT1.1.1.u64 i (by rw [digs_length]; exact hlt)
          have hy : wr.cell? ⟨w.heap.size + 1, k, none⟩ = some (.int .u64 (((digs B m 16).getD k 0 : Nat) : Int)) := hT1.1.2.1.u64 k (by rw [digs_length]; exact hk)
          rw [digs_at hlt] at hx
          rw [digs_at hk] at hy
          have hf := hT1.2.frozen (i + k)
          have hal1 := hL1.2.1 (i + k)
          have hxl := lim_lt n i
          have hyl := lim_lt m k
          have hnl := hL1.next hlt hk
          obtain ⟨a, hA⟩ := named (L1.getD (i + k) 0)
          obtain ⟨x, hX⟩ := named (n / B ^ i % B)
          obtain ⟨y, hY⟩ := named (m / B ^ k % B)
          rw [← hA.out, ← hX.out, ← hY.out] at hnl
          rw [← hA.out] at ha hal1
          rw [← hX.out] at hx hxl
          rw [← hY.out] at hy hyl
          have hpl : x * y ≤ 65535 * 65535 := Nat.mul_le_mul (by unfold B at hxl; omega) (by unfold B at hyl; omega)
          obtain ⟨q, hq⟩ := named (x * y)
          rw [← hq.out] at hnl hpl
          have cq := wrap_mul x y q (by rw [hq.out] at hpl ⊢; unfold M; omega)
          obtain ⟨s, hs⟩ := named (a + q)
          have cs := wrap_sum a q s (by rw [hs.out]; unfold M; omega)
          rw [← hs.out] at hnl
          have i1 : IntKind.i64.wrap ((i : Int) + (k : Int)) = (i : Int) + (k : Int) := IntWalk.i64_in _ (by omega)
          have t0 : ((i : Int) + (k : Int)).toNat = i + k := by omega
          have q0 : (0 : Int) ≤ (i : Int) + (k : Int) := by omega
          have q2 : (i : Int) + (k : Int) < 32 := by omega
          have HNL := Lib.hid hnl
          have n1 := Lib.hid (hT1.set (i + k) s)
          have n2 := Lib.hid (hT1.drew.set (i + k) s)
          clear hT1 hL1 hnl hxl hyl hpl hal1
          go_wp2
          go_region
          have hnd := Lib.hid n1.out.drew
          clear n1
          go_wp2
          go_roundg (gk - 1)
          case measure => omega
          case rel => exact ⟨k + 1, L1.set (i + k) s, by go_num, by omega, HNL.out, (by first | exact hnd.out | exact n2.out)⟩
        · obtain rfl : k = 16 := by omega
          have HL1 := Lib.hid (hL1.row HM.out)
          have HT1 := Lib.hid hT1
          clear hL1 hT1
          go_wp2
          go_roundg G
          case measure => have := hG.out; omega
          case rel => exact ⟨i + 1, L1, by go_num, hG.out.2, HL1.out, HT1.out⟩
    · obtain rfl : i = 16 := by omega
      obtain ⟨hl, hsm, hv⟩ := hL.done HN.out
      have HT := Lib.hid hT
      have HL := Lib.hid hl
      have HB := Lib.hid hL.2.1
      have HS := Lib.hid hsm
      have HV := Lib.hid hv
      have hf3 := hT.2.lt
      have hO : OutAt w n m z L wr.heap.size 0 (wr.alloc (.cells z 35)) := by
        refine ⟨hT.next ((Below.refl _ _).alloc (Nat.le_refl _) _), ?_, hf3⟩
        rw [partN_zero, foldL_length hl, zero16, ← hz.out]
        exact Blk.new wr 35 z
      have HO := Lib.hid hO
      clear hT hL hl hsm hv hO
      go_wp2_with (first | (refine wpList_store_row rfl 35 (.tmp 8) (.tmp 36) rfl wr.heap.size z rfl rfl 35 z (Blk.new wr 35 z) hzi.out rfl hz1.out ?_; rw [setRow_self (Blk.new wr 35 z)]))
      have hFi := Lib.hid (u64s_info (foldL_length HL.out))
      generalize wr.alloc (.cells z 35) = W2 at *
      generalize wr.heap.size = g at *
      clear hf3 hz0
      go_loopg [9] 16 (fun gg iv w2 => ∃ i, iv = .int .i64 (i : Nat) ∧ gg + i = 16 ∧ OutAt w n m z L g i w2)
      case atStart => exact ⟨0, rfl, rfl, HO.out⟩
      case round =>
        obtain ⟨i, rfl, hgi, hO⟩ := hrel
        clear HO
        by_cases hi : i < 16
        · have hl := HL.out
          have ha := hO.1.2.u64 i (by omega)
          have hb := hO.1.2.u64 (i + 16) (by omega)
          have hx := hO.2.1.u64 i (by rw [partN_length (by rw [foldL_length hl]; omega), foldL_length hl]; exact hi)
          have hf := hO.2.1.frozen i
          have hal := HB.out i
          have hbl := HB.out (i + 16)
          have hfo := foldL_at hl hi
          obtain ⟨a, hA⟩ := named (L.getD i 0)
          obtain ⟨b, hB⟩ := named (L.getD (i + 16) 0)
          rw [← hA.out] at ha hal hfo
          rw [← hB.out] at hb hbl hfo
          obtain ⟨q, hq⟩ := named (38 * b)
          obtain ⟨s, hs⟩ := named (a + q)
          have cq : IntKind.u64.wrap (38 * (b : Int)) = (q : Int) := by rw [IntKind.wrap_u64, hq.out]; omega
          have cs := wrap_sum a q s (by rw [hs.out, hq.out]; unfold M; omega)
          have i1 : IntKind.i64.wrap ((i : Int) + 16) = (i : Int) + 16 := IntWalk.i64_in _ (by omega)
          have t0 : ((i : Int) + 16).toNat = i + 16 := by omega
          have q0 : (0 : Int) ≤ (i : Int) + 16 := by omega
          have q2 : (i : Int) + 16 < 32 := by omega
          have n1 : Hid (OutAt w n m z L g (i + 1) (wr.setCell ⟨g, i, none⟩ (.int .u64 (s : Int)))) := Lib.hid (by
            refine ⟨hO.1.far hO.2.2 _ _, ?_, hO.2.2⟩
            have := hO.2.1.u64set i s
            rw [show s = (foldL L).getD i 0 by rw [hfo, hs.out, hq.out], partN_set (by rw [foldL_length hl]; exact hi)] at this
            rw [show s = (foldL L).getD i 0 by rw [hfo, hs.out, hq.out]]
            exact this)
          obtain ⟨u, hu⟩ := named ((partN (foldL L) i).getD i 0)
          rw [← hu.out] at hx
          clear hO hal hbl hfo hl
          go_wp2
          go_region
          have hnd := Lib.hid n1.out.drew
          clear n1
          go_wp2
          go_roundg (gk - 1)
          case measure => omega
          case rel => exact ⟨i + 1, by go_num, by omega, hnd.out⟩
        · obtain rfl : i = 16 := by omega
          have e16 : partN (foldL L) 16 = foldL L := by
            have := partN_all (foldL L)
            rwa [foldL_length HL.out] at this
          have hb := hO.2.1
          rw [e16] at hb
          have HB2 := Lib.hid hb
          have HF := Lib.hid hO.1
          clear hO hb e16
          go_wp2_with (first | (refine wpList_load_row rfl 35 (.tmp 8) rfl g rfl 35 (u64s (foldL L)) (0, 0) _ HB2.out Tryd.underlying35 rfl hFi.out ?_))
          refine (fit_any (foldL L) (foldL_length HL.out) HS.out _).mono ?_
          rintro e w1 ⟨rfl, hb1⟩
          rw [HV.out, show u64s (digs B (n * m % P) 16) = limF (n * m % P) from rfl]
          have HT1 := Lib.hid (HF.out.next hb1)
          clear hb1
          have hRi2 := Lib.hid (limF_info (n * m % P))
          have hR12 := Lib.hid (limF_one (n * m % P))
          have hzz : Hid (z.size = (limF (n * m % P)).size) := Lib.hid (by rw [hz.out, limF_size, limF_size])
          obtain ⟨R, hR⟩ : ∃ R, Hid (R = limF (n * m % P)) := ⟨_, Lib.hid rfl⟩
          rw [← hR.out] at hRi2 hR12 hzz ⊢
          go_wp2_with (first | (refine wpList_store_row rfl 35 (.tmp 4) (.tmp 53) rfl (w.heap.size + 2) R rfl rfl 35 z HT1.out.1.2.2.1 hRi2.out hzz.out hR12.out ?_))
          refine bodyPost_ret (v := .agg R) ?_ rfl ⟨by rw [hR.out], below_row HT1.out.1.2.2.2 (by omega) _⟩
          exact results_cell_row Tryd.results49 _ _ (w.heap.size + 2) 35 R (0, 0) _ rfl ((HT1.out.1.2.2.1).row R) Tryd.underlying35 rfl hRi2.out
end Go.Proofs.YtjiadbaaggifpaaDoor
end

section
set_option linter.unusedVariables false
set_option linter.unusedSimpArgs false
namespace Go.Proofs.YtjiadbaaggifpaaDoor
open Go Go.Proofs Go.RowKit F5

abbrev Z4 : Array Value := #[.int .u64 0, .int .u64 0, .int .u64 0, .int .u64 0]
theorem Z4_size (n : Nat) : Z4.size = (limA n).size := by rw [limA_size]; rfl
/-- Blocks other than g are as they were. -/
def Far (g : Nat) (w w' : World) : Prop := ∀ g' T c, g' ≠ g → Blk w g' T c → Blk w' g' T c
theorem Far.of {g : Nat} {w w' : World} (h : Below w.heap.size w w') : Far g w w' := fun _ _ _ _ hb => hb.old h
theorem Far.row {g : Nat} {w w' : World} (h : Far g w w') (c : Array Value) : Far g w (w'.setRow g c) := fun g' T c' hne hb => (h g' T c' hne hb).rowFar hne c

/-- Elements that stand in blocks: the first and the second new one. -/
def Two2 (w : World) (a b : Array Value) (wr : World) : Prop := Blk wr w.heap.size 28 a ∧ Blk wr (w.heap.size + 1) 28 b ∧ Below w.heap.size w wr
theorem Two2.new (w : World) (a b : Array Value) : Two2 w a b ((w.alloc (.cells a 28)).alloc (.cells b 28)) := by
  refine ⟨(Blk.new w 28 a).alloc _, ?_, ((Below.refl _ _).alloc (Nat.le_refl _) _).alloc (by simp) _⟩
  have := Blk.new (w.alloc (.cells a 28)) 28 b
  rwa [show (w.alloc (.cells a 28)).heap.size = w.heap.size + 1 by simp] at this
theorem Two2.next {w wr w' : World} {a b : Array Value} (h : Two2 w a b wr) (hb : Below wr.heap.size wr w') : Two2 w a b w' := ⟨h.1.old hb, h.2.1.old hb, h.2.2.trans (hb.mono h.2.2.size)⟩
theorem Two2.drew {w wr : World} {a b : Array Value} (h : Two2 w a b wr) : Two2 w a b wr.drew := ⟨h.1.drew, h.2.1.drew, h.2.2.drew⟩
theorem Two2.fst {w wr : World} {a b : Array Value} (h : Two2 w a b wr) (c : Array Value) : Two2 w c b (wr.setRow w.heap.size c) := ⟨h.1.row c, h.2.1.rowFar (by omega) c, below_row h.2.2 (Nat.le_refl _) c⟩
theorem Two2.snd {w wr : World} {a b : Array Value} (h : Two2 w a b wr) (c : Array Value) : Two2 w a c (wr.setRow (w.heap.size + 1) c) := ⟨h.1.rowFar (by omega) c, h.2.1.row c, below_row h.2.2 (by omega) c⟩
theorem Two2.far {w wr : World} {a b : Array Value} (h : Two2 w a b wr) {g : Nat} (hg : w.heap.size + 1 < g) (c : Array Value) : Two2 w a b (wr.setRow g c) := ⟨h.1.rowFar (by omega) c, h.2.1.rowFar (by omega) c, below_row h.2.2 (by omega) c⟩
theorem Two2.lt {w wr : World} {a b : Array Value} (h : Two2 w a b wr) : w.heap.size + 1 < wr.heap.size := h.2.1.lt

set_option maxHeartbeats 4000000 in
set_option maxRecDepth 100000 in
theorem squared_any (n c : Nat) (hn : n < P) (hc : c ≤ 1000) (w : World) (hP : PrimeAt w) :
    Calls Tryd.prog 63 #[elemV n, .int .i64 (c : Int)] w fun e w' => e = .returned (elemV (pw n (2 ^ c))) ∧ Below w.heap.size w w' := by
  unfold elemV
  obtain ⟨cn, hcn⟩ : ∃ c, Hid (c = limA n) := ⟨_, Lib.hid rfl⟩
  rw [← hcn.out]
  have HP := Lib.hid hP
  have HN := Lib.hid hn
  clear hP hn
  go_enter Tryd.func63, Tryd.ntmps63
  go_wp2_with fail
  have h2 := Two2.new w cn Z4
  unfold Z4 at h2
  generalize (w.alloc (.cells cn 28)).alloc (.cells #[.int .u64 0, .int .u64 0, .int .u64 0, .int .u64 0] 28) = W at *
  rw [hcn.out] at h2
  go_loopg [6] c (fun g iv wr => ∃ i : Nat, iv = .int .i64 (i : Nat) ∧ g + i = c ∧ Two2 w (limA (pw n (2 ^ i))) #[.int .u64 0, .int .u64 0, .int .u64 0, .int .u64 0] wr)
  case atStart => exact ⟨0, rfl, rfl, by rw [show 2 ^ 0 = 1 from rfl, pw_one HN.out]; exact h2⟩
  case round =>
    obtain ⟨i, rfl, hg, hT⟩ := hrel
    clear h2
    have HT := Lib.hid hT
    clear hT
    by_cases hlt : i < c
    · obtain ⟨x, hx⟩ : ∃ x, Hid (x = limA (pw n (2 ^ i))) := ⟨_, Lib.hid rfl⟩
      have hRi := Lib.hid (limA_infoE (pw n (2 ^ i)))
      have hRi2 := Lib.hid (limA_infoE (pw n (2 ^ (i + 1))))
      have hR12 := Lib.hid (limA_one (pw n (2 ^ (i + 1))))
      have hzz : Hid ((limA (pw n (2 ^ i))).size = (limA (pw n (2 ^ (i + 1)))).size) := Lib.hid (by rw [limA_size, limA_size])
      rw [← hx.out] at HT hRi hzz
      have hmul := mul_e (pw n (2 ^ i)) (pw n (2 ^ i)) (pw_lt _ _) (pw_lt _ _) wr (HP.out.old HT.out.2.2)
      rw [pw_add, show 2 ^ i + 2 ^ i = 2 ^ (i + 1) by rw [Nat.pow_succ]; omega] at hmul
      unfold elemV at hmul
      rw [← hx.out] at hmul
      obtain ⟨y, hy⟩ : ∃ y, Hid (y = limA (pw n (2 ^ (i + 1)))) := ⟨_, Lib.hid rfl⟩
      rw [← hy.out] at hmul hRi2 hR12 hzz
      have HMUL := Lib.hid hmul
      clear hmul
      go_wp2_with (first | (refine wpList_load_row rfl 28 (.tmp 2) rfl w.heap.size rfl 28 x (0, 0) _ HT.out.1 Tryd.underlying28 rfl hRi.out ?_))
      refine HMUL.out.mono ?_
      rintro e w1 ⟨rfl, hb1⟩
      have HT1 := Lib.hid (HT.out.next hb1)
      clear hb1
      have HT2 := Lib.hid (HT1.out.fst y)
      go_wp2_with (first | (refine wpList_store_row rfl 28 (.tmp 2) (.tmp 10) rfl w.heap.size y rfl rfl 28 x HT1.out.1 hRi2.out hzz.out hR12.out ?_))
      go_roundg (gk - 1)
      case measure => omega
      case rel => exact ⟨i + 1, by go_num, by omega, by rw [← hy.out]; exact HT2.out⟩
    · obtain rfl : i = c := by omega
      obtain ⟨R, hR⟩ : ∃ R, Hid (R = limA (pw n (2 ^ i))) := ⟨_, Lib.hid rfl⟩
      have hRi := Lib.hid (limA_infoE (pw n (2 ^ i)))
      have hR1 := Lib.hid (limA_one (pw n (2 ^ i)))
      have hzz := Lib.hid (Z4_size (pw n (2 ^ i)))
      rw [← hR.out] at hRi hR1 hzz HT
      go_wp2_with (first | (refine wpList_load_row rfl 28 (.tmp 2) rfl w.heap.size rfl 28 R (0, 0) _ HT.out.1 Tryd.underlying28 rfl hRi.out ?_) |
        (refine wpList_store_row rfl 28 (.tmp 4) (.tmp 12) rfl (w.heap.size + 1) R rfl rfl 28 _ HT.out.2.1 hRi.out hzz.out hR1.out ?_))
      refine bodyPost_ret (v := .agg R) ?_ rfl ⟨by rw [hR.out], (HT.out.snd R).2.2⟩
      exact results_cell_row Tryd.results63 _ _ (w.heap.size + 1) 28 R (0, 0) _ rfl (HT.out.snd R).2.1 Tryd.underlying28 rfl hRi.out

theorem alloc_new {B : Nat} {w w' : World} (h : Below B w w') (T : TypeId) (z : Array Value) : Blk (w'.alloc (.cells z T)) w'.heap.size T z := Blk.new _ _ _
/-- A third element, in a block behind the two. -/
def Three2 (w : World) (a b c : Array Value) (g : Nat) (wr : World) : Prop := Two2 w a b wr ∧ Blk wr g 28 c ∧ w.heap.size + 1 < g
theorem Three2.next {w wr w' : World} {a b c : Array Value} {g : Nat} (h : Three2 w a b c g wr) (hb : Below wr.heap.size wr w') : Three2 w a b c g w' := ⟨h.1.next hb, h.2.1.old hb, h.2.2⟩
theorem Three2.third {w wr : World} {a b c : Array Value} {g : Nat} (h : Three2 w a b c g wr) (d : Array Value) : Three2 w a b d g (wr.setRow g d) := ⟨h.1.far h.2.2 d, h.2.1.row d, h.2.2⟩

set_option maxHeartbeats 8000000 in
set_option maxRecDepth 100000 in
theorem ones_any (c : Nat) : 1 ≤ c → c ≤ 1000 → ∀ (n : Nat) (w : World), n < P → PrimeAt w →
    Calls Tryd.prog 64 #[elemV n, .int .i64 (c : Int)] w fun e w' => e = .returned (elemV (pw n (2 ^ c - 1))) ∧ Below w.heap.size w w' := by
  induction c using Nat.strongRecOn with
  | _ c ih =>
  intro hc1 hc n w hn hP
  unfold elemV
  obtain ⟨cn, hcn⟩ : ∃ c, Hid (c = limA n) := ⟨_, Lib.hid rfl⟩
  rw [← hcn.out]
  have HP := Lib.hid hP
  have HN := Lib.hid hn
  have IH := Lib.hid ih
  have hni : Hid ((Tryd.prog.info? 28).map (·.size) = some cn.size) := by rw [hcn.out]; exact Lib.hid (limA_infoE n)
  clear hP hn ih
  by_cases h1 : c = 1
  · subst h1
    have hz : Hid (Array.size (#[.int .u64 0, .int .u64 0, .int .u64 0, .int .u64 0] : Array Value) = cn.size) := by rw [hcn.out]; exact Lib.hid (Z4_size n)
    have ho : Hid (cn.all (·.oneCell') = true) := by rw [hcn.out]; exact Lib.hid (limA_one n)
    have hR : Hid (cn = limA (pw n (2 ^ 1 - 1))) := by rw [show 2 ^ 1 - 1 = 1 from rfl, pw_one HN.out]; exact hcn
    have H2 := Lib.hid (Two2.new w cn #[.int .u64 0, .int .u64 0, .int .u64 0, .int .u64 0])
    go_enter Tryd.func64, Tryd.ntmps64
    go_wp2_with (first | (refine wpList_load_row rfl 28 (.tmp 2) rfl w.heap.size rfl 28 cn (0, 0) _ H2.out.1 Tryd.underlying28 rfl hni.out ?_) |
        (refine wpList_store_row rfl 28 (.tmp 4) (.tmp 9) rfl (w.heap.size + 1) cn rfl rfl 28 _ H2.out.2.1 hni.out hz.out ho.out ?_))
    refine bodyPost_ret (v := .agg cn) ?_ rfl ⟨by rw [hR.out], (H2.out.snd cn).2.2⟩
    exact results_cell_row Tryd.results64 _ _ (w.heap.size + 1) 28 cn (0, 0) _ rfl (H2.out.snd cn).2.1 Tryd.underlying28 rfl hni.out
  obtain ⟨h, hh⟩ := named (c / 2)
  have hcc : ((c : Int) == 1) = false := by simp; omega
  have d2 : (c : Int).tdiv 2 = (h : Int) := by rw [Int.tdiv_eq_ediv_of_nonneg (by omega), hh.out]; omega
  have d1 : (c : Int) / 2 = (h : Int) := by rw [hh.out]; omega
  have wh : IntKind.i64.wrap (h : Int) = (h : Int) := IntWalk.i64_in _ (by rw [hh.out]; omega)
  have hsml : h < c ∧ 1 ≤ h ∧ h ≤ 1000 := by rw [hh.out]; omega
  have hih := IH.out h hsml.1 hsml.2.1 hsml.2.2 n
  have HIH : Hid (∀ V, PrimeAt V → Calls Tryd.prog 64 #[.agg cn, .int .i64 (h : Int)] V fun e w' => e = .returned (.agg (limA (pw n (2 ^ h - 1)))) ∧ Below V.heap.size V w') := Lib.hid fun V hV => by rw [hcn.out]; exact hih V HN.out hV
  have HSQ : Hid (∀ V, PrimeAt V → Calls Tryd.prog 63 #[.agg (limA (pw n (2 ^ h - 1))), .int .i64 (h : Int)] V fun e w' => e = .returned (.agg (limA (pw n ((2 ^ h - 1) * 2 ^ h)))) ∧ Below V.heap.size V w') := Lib.hid fun V hV => by
    have := squared_any (pw n (2 ^ h - 1)) h (pw_lt _ _) hsml.2.2 V hV
    rwa [pw_pw] at this
  have hml1 : (2 ^ h - 1) * 2 ^ h + (2 ^ h - 1) = 2 ^ (2 * h) - 1 := by
    have hp : 1 ≤ 2 ^ h := Nat.one_le_two_pow
    rw [Nat.two_mul, Nat.pow_add]
    generalize 2 ^ h = z at *
    obtain ⟨y, rfl⟩ : ∃ y, z = y + 1 := ⟨z - 1, by omega⟩
    simp only [Nat.add_sub_cancel, Nat.mul_add, Nat.add_mul, Nat.mul_one, Nat.one_mul]
    omega
  have HML : Hid (∀ V, PrimeAt V → Calls Tryd.prog 38 #[.agg (limA (pw n ((2 ^ h - 1) * 2 ^ h))), .agg (limA (pw n (2 ^ h - 1)))] V fun e w' => e = .returned (.agg (limA (pw n (2 ^ (2 * h) - 1)))) ∧ Below V.heap.size V w') := Lib.hid fun V hV => by
    have := mul_e (pw n ((2 ^ h - 1) * 2 ^ h)) (pw n (2 ^ h - 1)) (pw_lt _ _) (pw_lt _ _) V hV
    rwa [pw_add, hml1] at this
  have HSQ1 : Hid (∀ V, PrimeAt V → Calls Tryd.prog 63 #[.agg (limA (pw n (2 ^ (2 * h) - 1))), .int .i64 1] V fun e w' => e = .returned (.agg (limA (pw n ((2 ^ (2 * h) - 1) * 2)))) ∧ Below V.heap.size V w') := Lib.hid fun V hV => by
    have := squared_any (pw n (2 ^ (2 * h) - 1)) 1 (pw_lt _ _) (by omega) V hV
    rwa [pw_pw] at this
  have hml2 : (2 ^ (2 * h) - 1) * 2 + 1 = 2 ^ (2 * h + 1) - 1 := by
    have hp : 1 ≤ 2 ^ (2 * h) := Nat.one_le_two_pow
    rw [Nat.pow_succ]
    omega
  have HML1 : Hid (∀ V, PrimeAt V → Calls Tryd.prog 38 #[.agg (limA (pw n ((2 ^ (2 * h) - 1) * 2))), .agg cn] V fun e w' => e = .returned (.agg (limA (pw n (2 ^ (2 * h + 1) - 1)))) ∧ Below V.heap.size V w') := Lib.hid fun V hV => by
    have := mul_e (pw n ((2 ^ (2 * h) - 1) * 2)) n (pw_lt _ _) HN.out V hV
    rw [pw_next HN.out, hml2] at this
    rw [hcn.out]; exact this
  obtain ⟨ch, hch⟩ : ∃ x, Hid (x = limA (pw n (2 ^ h - 1))) := ⟨_, Lib.hid rfl⟩
  obtain ⟨cq, hcq⟩ : ∃ x, Hid (x = limA (pw n ((2 ^ h - 1) * 2 ^ h))) := ⟨_, Lib.hid rfl⟩
  obtain ⟨cb, hcb⟩ : ∃ x, Hid (x = limA (pw n (2 ^ (2 * h) - 1))) := ⟨_, Lib.hid rfl⟩
  obtain ⟨cs, hcs⟩ : ∃ x, Hid (x = limA (pw n ((2 ^ (2 * h) - 1) * 2))) := ⟨_, Lib.hid rfl⟩
  obtain ⟨cd, hcd⟩ : ∃ x, Hid (x = limA (pw n (2 ^ (2 * h + 1) - 1))) := ⟨_, Lib.hid rfl⟩
  rw [← hch.out] at HIH HSQ HML
  rw [← hcq.out] at HSQ HML
  rw [← hcb.out] at HML HSQ1
  rw [← hcs.out] at HSQ1 HML1
  rw [← hcd.out] at HML1
  have okh : Hid ((Tryd.prog.info? 28).map (·.size) = some ch.size ∧ ch.all (·.oneCell') = true ∧ Array.size (#[.int .u64 0, .int .u64 0, .int .u64 0, .int .u64 0] : Array Value) = ch.size) := by rw [hch.out]; exact Lib.hid ⟨limA_infoE _, limA_one _, Z4_size _⟩
  have okb : Hid ((Tryd.prog.info? 28).map (·.size) = some cb.size ∧ cb.all (·.oneCell') = true ∧ Array.size (#[.int .u64 0, .int .u64 0, .int .u64 0, .int .u64 0] : Array Value) = cb.size ∧ cb.size = cd.size) := by rw [hcb.out, hcd.out]; exact Lib.hid ⟨limA_infoE _, limA_one _, Z4_size _, by rw [limA_size, limA_size]⟩
  have okd : Hid ((Tryd.prog.info? 28).map (·.size) = some cd.size ∧ cd.all (·.oneCell') = true ∧ Array.size (#[.int .u64 0, .int .u64 0, .int .u64 0, .int .u64 0] : Array Value) = cd.size) := by rw [hcd.out]; exact Lib.hid ⟨limA_infoE _, limA_one _, Z4_size _⟩
  have h2 := Two2.new w cn #[.int .u64 0, .int .u64 0, .int .u64 0, .int .u64 0]
  clear hih hml1 hml2
  go_enter Tryd.func64, Tryd.ntmps64
  go_upto_region 3 with fail
  generalize (w.alloc (.cells cn 28)).alloc (.cells #[.int .u64 0, .int .u64 0, .int .u64 0, .int .u64 0] 28) = W at *
  have H2 := Lib.hid h2
  clear h2
  go_upto_region 4 with (first | (refine wpList_load_row rfl 28 (.tmp 2) rfl w.heap.size rfl 28 cn (0, 0) _ H2.out.1 Tryd.underlying28 rfl hni.out ?_))
  refine (HIH.out _ (HP.out.old H2.out.2.2)).mono ?_
  rintro e w1 ⟨rfl, hb1⟩
  have H21 := Lib.hid (H2.out.next hb1)
  clear hb1
  go_upto_region 4 with (first | (refine wpList_store_row rfl 28 (.tmp 5) (.tmp 13) rfl w1.heap.size ch rfl rfl 28 _ (heap_alloc_new w1 _) okh.out.1 okh.out.2.2 okh.out.2.1 ?_; rw [setRow_alloc1]))
  have h3 : Three2 w cn #[.int .u64 0, .int .u64 0, .int .u64 0, .int .u64 0] ch w1.heap.size (w1.alloc (.cells ch 28)) := ⟨H21.out.next ((Below.refl _ _).alloc (Nat.le_refl _) _), Blk.new _ _ _, H21.out.lt⟩
  generalize w1.alloc (.cells ch 28) = W1 at *
  generalize w1.heap.size = g5 at *
  have H3 := Lib.hid h3
  clear h3
  (try simp only [Act.put, List.setIfInBounds_toArray, List.set_cons_zero, List.set_cons_succ])
  go_cut [6] (fun p6 wx => ∃ g6, p6 = .pointer (some ⟨g6, 0, none⟩) ∧ Three2 w cn #[.int .u64 0, .int .u64 0, .int .u64 0, .int .u64 0] cb g6 wx)
  case first =>
    refine wp_region_held_drew (S := fun V => Below W1.heap.size W1 V) (by kernel_rfl) (Below.refl _ _).drew (fun hHeld => ?_)
    have HB0 := Lib.hid ((Below.refl W1.heap.size W1).drew)
    generalize W1.drew = V0 at *
    refine' wpAnyH_take (i := 0) (oi := _) (v := .agg ch) ?hit1 ?hst1 ?hft1 ?hrt1 ?hQt1 ?hyt1 ?hSt1 ?_
    case hit1 => (simp only [List.getElem?_toArray, List.getElem?_cons_succ, List.getElem?_cons_zero]; rfl)
    case hst1 => kernel_rfl
    case hft1 => kernel_rfl
    case hrt1 => kernel_rfl
    case hQt1 => exact fun _ _ _ h => h
    case hSt1 => assumption
    case hyt1 =>
      refine Or.inl ⟨by rfl, ?_⟩
      intro W hS
      exact quiet_load_row 28 (.tmp 5) _ rfl 28 ch _ (H3.out.2.1.old hS) Tryd.underlying28 rfl okh.out.1 rfl
    (try simp only [Act.put, List.setIfInBounds_toArray, List.set_cons_zero, List.set_cons_succ])
    refine' wpAnyH_take (i := 1) (oi := _) (v := _) ?hit2 ?hst2 ?hft2 ?hrt2 ?hQt2 ?hyt2 ?hSt2 ?_
    case hit2 => (simp only [List.getElem?_toArray, List.getElem?_cons_succ, List.getElem?_cons_zero]; rfl)
    case hst2 => kernel_rfl
    case hft2 => kernel_rfl
    case hrt2 => kernel_rfl
    case hQt2 => exact fun _ _ _ h => h
    case hSt2 => assumption
    case hyt2 =>
      refine Or.inl ⟨by rfl, ?_⟩
      intro w hSw
      (try dsimp only at hSw)
      go_simp
      all_goals (with_reducible rfl)
    (try simp only [Act.put, List.setIfInBounds_toArray, List.set_cons_zero, List.set_cons_succ])
    refine' wpAnyH_take (i := 2) (oi := _) (v := _) ?hit3 ?hst3 ?hft3 ?hrt3 ?hQt3 ?hyt3 ?hSt3 ?_
    case hit3 => (simp only [List.getElem?_toArray, List.getElem?_cons_succ, List.getElem?_cons_zero]; rfl)
    case hst3 => kernel_rfl
    case hft3 => kernel_rfl
    case hrt3 => kernel_rfl
    case hQt3 => exact fun _ _ _ h => h
    case hSt3 => assumption
    case hyt3 =>
      refine Or.inl ⟨by rfl, ?_⟩
      intro w hSw
      (try dsimp only at hSw)
      go_simp
      all_goals (with_reducible rfl)
    (try simp only [Act.put, List.setIfInBounds_toArray, List.set_cons_zero, List.set_cons_succ])
    refine' wpAnyH_take (i := 4) (oi := _) (v := .agg ch) ?hit4 ?hst4 ?hft4 ?hrt4 ?hQt4 ?hyt4 ?hSt4 ?_
    case hit4 => (simp only [List.getElem?_toArray, List.getElem?_cons_succ, List.getElem?_cons_zero]; rfl)
    case hst4 => kernel_rfl
    case hft4 => kernel_rfl
    case hrt4 => kernel_rfl
    case hQt4 => exact fun _ _ _ h => h
    case hSt4 => assumption
    case hyt4 =>
      refine Or.inl ⟨by rfl, ?_⟩
      intro W hS
      exact quiet_load_row 28 (.tmp 5) _ rfl 28 ch _ (H3.out.2.1.old hS) Tryd.underlying28 rfl okh.out.1 rfl
    (try simp only [Act.put, List.setIfInBounds_toArray, List.set_cons_zero, List.set_cons_succ])
    refine wpAnyH_ready (rs := [3, 6]) (by kernel_rfl) (by simp) ?_
    refine' (AllReadyH.cons (o := _) ?hir5_3 (fun K hK => ?br5_3) (AllReadyH.cons (o := _) ?hir5_6 (fun K hK => ?br5_6) AllReadyH.nil))
    case hir5_3 => (simp only [List.getElem?_toArray, List.getElem?_cons_succ, List.getElem?_cons_zero]; rfl)
    case hir5_6 => (simp only [List.getElem?_toArray, List.getElem?_cons_succ, List.getElem?_cons_zero]; rfl)
    case br5_3 =>
      go_simp
      refine (HSQ.out _ (HP.out.old (H3.out.1.2.2.trans (HB0.out.mono H3.out.1.2.2.size)))).mono ?_
      rintro e w6 ⟨rfl, hb6⟩
      have H6 := Lib.hid (HB0.out.trans (hb6.mono HB0.out.size))
      clear hb6
      go_wp2_with fail
      refine hK.out _ _ ?_ (fun hHeld => ?_)
      exact H6.out
      clear hK K
      (try simp only [Act.put, List.setIfInBounds_toArray, List.set_cons_zero, List.set_cons_succ])
      refine wpAnyH_ready (rs := [5, 6]) (by kernel_rfl) (by simp) ?_
      refine' (AllReadyH.cons (o := _) ?hir7_5 (fun K hK => ?br7_5) (AllReadyH.cons (o := _) ?hir7_6 (fun K hK => ?br7_6) AllReadyH.nil))
      case hir7_5 => (simp only [List.getElem?_toArray, List.getElem?_cons_succ, List.getElem?_cons_zero]; rfl)
      case hir7_6 => (simp only [List.getElem?_toArray, List.getElem?_cons_succ, List.getElem?_cons_zero]; rfl)
      case br7_5 =>
        go_simp
        refine (HML.out _ (HP.out.old (H3.out.1.2.2.trans (H6.out.mono H3.out.1.2.2.size)))).mono ?_
        rintro e w8 ⟨rfl, hb8⟩
        have H8 := Lib.hid (H6.out.trans (hb8.mono H6.out.size))
        clear hb8
        go_wp2_with fail
        refine hK.out _ _ ?_ (fun hHeld => ?_)
        exact H8.out
        clear hK K
        (try simp only [Act.put, List.setIfInBounds_toArray, List.set_cons_zero, List.set_cons_succ])
        refine wpAnyH_ready (rs := [6]) (by kernel_rfl) (by simp) ?_
        refine' (AllReadyH.cons (o := _) ?hir9_6 (fun K hK => ?br9_6) AllReadyH.nil)
        case hir9_6 => (simp only [List.getElem?_toArray, List.getElem?_cons_succ, List.getElem?_cons_zero]; rfl)
        case br9_6 =>
          go_simp
          refine hK.out _ _ ?_ (fun hHeld => ?_)
          · exact H8.out.alloc H8.out.size _
          have H10 := Lib.hid (H8.out.alloc H8.out.size (.cells #[.int .u64 0, .int .u64 0, .int .u64 0, .int .u64 0] 28))
          have N6_10 := Lib.hid (alloc_new H8.out 28 #[.int .u64 0, .int .u64 0, .int .u64 0, .int .u64 0])
          have G6_10 := Lib.hid H8.out.size
          clear hK K
          (try simp only [Act.put, List.setIfInBounds_toArray, List.set_cons_zero, List.set_cons_succ])
          refine wpAnyH_ready (rs := [7]) (by kernel_rfl) (by simp) ?_
          refine' (AllReadyH.cons (o := _) ?hir11_7 (fun K hK => ?br11_7) AllReadyH.nil)
          case hir11_7 => (simp only [List.getElem?_toArray, List.getElem?_cons_succ, List.getElem?_cons_zero]; rfl)
          case br11_7 =>
            refine step_of_wp rfl ?_
            refine wp_store_row 28 (.tmp 6) (.tmp 19) rfl _ cb rfl rfl 28 _ N6_10.out okb.out.1 okb.out.2.2.1 okb.out.2.1 ?_
            refine hK.out _ _ ?_ (fun hHeld => ?_)
            exact below_row H10.out G6_10.out _
            clear hK K
            (try simp only [Act.put, List.setIfInBounds_toArray, List.set_cons_zero, List.set_cons_succ])
            refine wpAnyH_done (by kernel_rfl) ?_ _
            go_wp2_with fail
            go_meet
            exact ⟨_, rfl, (H3.out.1.next H10.out).far (by have := H3.out.1.lt; have := G6_10.out; omega) _, N6_10.out.row _, by have := H3.out.1.lt; have := G6_10.out; omega⟩
      case br7_6 =>
        go_simp
        refine hK.out _ _ ?_ (fun hHeld => ?_)
        · exact H6.out.alloc H6.out.size _
        have H13 := Lib.hid (H6.out.alloc H6.out.size (.cells #[.int .u64 0, .int .u64 0, .int .u64 0, .int .u64 0] 28))
        have N6_13 := Lib.hid (alloc_new H6.out 28 #[.int .u64 0, .int .u64 0, .int .u64 0, .int .u64 0])
        have G6_13 := Lib.hid H6.out.size
        clear hK K
        (try simp only [Act.put, List.setIfInBounds_toArray, List.set_cons_zero, List.set_cons_succ])
        refine wpAnyH_ready (rs := [5]) (by kernel_rfl) (by simp) ?_
        refine' (AllReadyH.cons (o := _) ?hir14_5 (fun K hK => ?br14_5) AllReadyH.nil)
        case hir14_5 => (simp only [List.getElem?_toArray, List.getElem?_cons_succ, List.getElem?_cons_zero]; rfl)
        case br14_5 =>
          go_simp
          refine (HML.out _ (HP.out.old (H3.out.1.2.2.trans (H13.out.mono H3.out.1.2.2.size)))).mono ?_
          rintro e w15 ⟨rfl, hb15⟩
          have H15 := Lib.hid (H13.out.trans (hb15.mono H13.out.size))
          have N6_15 := Lib.hid (N6_13.out.old hb15)
          clear hb15
          go_wp2_with fail
          refine hK.out _ _ ?_ (fun hHeld => ?_)
          exact H15.out
          clear hK K
          (try simp only [Act.put, List.setIfInBounds_toArray, List.set_cons_zero, List.set_cons_succ])
          refine wpAnyH_ready (rs := [7]) (by kernel_rfl) (by simp) ?_
          refine' (AllReadyH.cons (o := _) ?hir16_7 (fun K hK => ?br16_7) AllReadyH.nil)
          case hir16_7 => (simp only [List.getElem?_toArray, List.getElem?_cons_succ, List.getElem?_cons_zero]; rfl)
          case br16_7 =>
            refine step_of_wp rfl ?_
            refine wp_store_row 28 (.tmp 6) (.tmp 19) rfl _ cb rfl rfl 28 _ N6_15.out okb.out.1 okb.out.2.2.1 okb.out.2.1 ?_
            refine hK.out _ _ ?_ (fun hHeld => ?_)
            exact below_row H15.out G6_13.out _
            clear hK K
            (try simp only [Act.put, List.setIfInBounds_toArray, List.set_cons_zero, List.set_cons_succ])
            refine wpAnyH_done (by kernel_rfl) ?_ _
            go_wp2_with fail
            go_meet
            exact ⟨_, rfl, (H3.out.1.next H15.out).far (by have := H3.out.1.lt; have := G6_13.out; omega) _, N6_15.out.row _, by have := H3.out.1.lt; have := G6_13.out; omega⟩
    case br5_6 =>
      go_simp
      refine hK.out _ _ ?_ (fun hHeld => ?_)
      · exact HB0.out.alloc HB0.out.size _
      have H18 := Lib.hid (HB0.out.alloc HB0.out.size (.cells #[.int .u64 0, .int .u64 0, .int .u64 0, .int .u64 0] 28))
      have N6_18 := Lib.hid (alloc_new HB0.out 28 #[.int .u64 0, .int .u64 0, .int .u64 0, .int .u64 0])
      have G6_18 := Lib.hid HB0.out.size
      clear hK K
      (try simp only [Act.put, List.setIfInBounds_toArray, List.set_cons_zero, List.set_cons_succ])
      refine wpAnyH_ready (rs := [3]) (by kernel_rfl) (by simp) ?_
      refine' (AllReadyH.cons (o := _) ?hir19_3 (fun K hK => ?br19_3) AllReadyH.nil)
      case hir19_3 => (simp only [List.getElem?_toArray, List.getElem?_cons_succ, List.getElem?_cons_zero]; rfl)
      case br19_3 =>
        go_simp
        refine (HSQ.out _ (HP.out.old (H3.out.1.2.2.trans (H18.out.mono H3.out.1.2.2.size)))).mono ?_
        rintro e w20 ⟨rfl, hb20⟩
        have H20 := Lib.hid (H18.out.trans (hb20.mono H18.out.size))
        have N6_20 := Lib.hid (N6_18.out.old hb20)
        clear hb20
        go_wp2_with fail
        refine hK.out _ _ ?_ (fun hHeld => ?_)
        exact H20.out
        clear hK K
        (try simp only [Act.put, List.setIfInBounds_toArray, List.set_cons_zero, List.set_cons_succ])
        refine wpAnyH_ready (rs := [5]) (by kernel_rfl) (by simp) ?_
        refine' (AllReadyH.cons (o := _) ?hir21_5 (fun K hK => ?br21_5) AllReadyH.nil)
        case hir21_5 => (simp only [List.getElem?_toArray, List.getElem?_cons_succ, List.getElem?_cons_zero]; rfl)
        case br21_5 =>
          go_simp
          refine (HML.out _ (HP.out.old (H3.out.1.2.2.trans (H20.out.mono H3.out.1.2.2.size)))).mono ?_
          rintro e w22 ⟨rfl, hb22⟩
          have H22 := Lib.hid (H20.out.trans (hb22.mono H20.out.size))
          have N6_22 := Lib.hid (N6_20.out.old hb22)
          clear hb22
          go_wp2_with fail
          refine hK.out _ _ ?_ (fun hHeld => ?_)
          exact H22.out
          clear hK K
          (try simp only [Act.put, List.setIfInBounds_toArray, List.set_cons_zero, List.set_cons_succ])
          refine wpAnyH_ready (rs := [7]) (by kernel_rfl) (by simp) ?_
          refine' (AllReadyH.cons (o := _) ?hir23_7 (fun K hK => ?br23_7) AllReadyH.nil)
          case hir23_7 => (simp only [List.getElem?_toArray, List.getElem?_cons_succ, List.getElem?_cons_zero]; rfl)
          case br23_7 =>
            refine step_of_wp rfl ?_
            refine wp_store_row 28 (.tmp 6) (.tmp 19) rfl _ cb rfl rfl 28 _ N6_22.out okb.out.1 okb.out.2.2.1 okb.out.2.1 ?_
            refine hK.out _ _ ?_ (fun hHeld => ?_)
            exact below_row H22.out G6_18.out _
            clear hK K
            (try simp only [Act.put, List.setIfInBounds_toArray, List.set_cons_zero, List.set_cons_succ])
            refine wpAnyH_done (by kernel_rfl) ?_ _
            go_wp2_with fail
            go_meet
            exact ⟨_, rfl, (H3.out.1.next H22.out).far (by have := H3.out.1.lt; have := G6_18.out; omega) _, N6_22.out.row _, by have := H3.out.1.lt; have := G6_18.out; omega⟩
  case rest =>
    obtain ⟨g6, rfl, h6⟩ := hcut
    have H6 := Lib.hid h6
    clear h6
    have hcase : c = 2 * h ∨ c = 2 * h + 1 := by rw [hh.out]; omega
    rcases hcase with hce | hce
    · have m1 : (c : Int).tmod 2 = 0 := by rw [Int.tmod_eq_emod_of_nonneg (by omega)]; omega
      have m2 : (c : Int) % 2 = 0 := by omega
      have hres : Hid (cb = limA (pw n (2 ^ c - 1))) := by rw [hce]; exact hcb
      clear hce
      go_wp2_with (first | (refine wpList_load_row rfl 28 (.tmp 6) rfl g6 rfl 28 cb (0, 0) _ H6.out.2.1 Tryd.underlying28 rfl okb.out.1 ?_) |
        (refine wpList_store_row rfl 28 (.tmp 4) (.tmp 27) rfl (w.heap.size + 1) cb rfl rfl 28 _ H6.out.1.2.1 okb.out.1 okb.out.2.2.1 okb.out.2.1 ?_))
      refine bodyPost_ret (v := .agg cb) ?_ rfl ⟨by rw [hres.out], (H6.out.1.snd cb).2.2⟩
      exact results_cell_row Tryd.results64 _ _ (w.heap.size + 1) 28 cb (0, 0) _ rfl (H6.out.1.snd cb).2.1 Tryd.underlying28 rfl okb.out.1
    · have m1 : (c : Int).tmod 2 = 1 := by rw [Int.tmod_eq_emod_of_nonneg (by omega)]; omega
      have m2 : (c : Int) % 2 = 1 := by omega
      have hres : Hid (cd = limA (pw n (2 ^ c - 1))) := by rw [hce]; exact hcd
      clear hce
      go_upto_region 6 with fail
      generalize wc = W2 at *
      refine wp_region_held_drew (S := fun V => Far g6 W2 V) (by kernel_rfl) (Far.of (Below.refl _ _).drew) (fun hHeld => ?_)
      have HB1 := Lib.hid ((Below.refl W2.heap.size W2).drew)
      generalize W2.drew = V1 at *
      refine' wpAnyH_take (i := 2) (oi := _) (v := .agg cn) ?hit25 ?hst25 ?hft25 ?hrt25 ?hQt25 ?hyt25 ?hSt25 ?_
      case hit25 => (simp only [List.getElem?_toArray, List.getElem?_cons_succ, List.getElem?_cons_zero]; rfl)
      case hst25 => kernel_rfl
      case hft25 => kernel_rfl
      case hrt25 => kernel_rfl
      case hQt25 => exact fun _ _ _ h => h
      case hSt25 => assumption
      case hyt25 =>
        refine Or.inl ⟨by rfl, ?_⟩
        intro W hS
        exact quiet_load_row 28 (.tmp 2) _ rfl 28 cn _ (hS _ _ _ (by have := H6.out.2.2; omega) H6.out.1.1) Tryd.underlying28 rfl hni.out rfl
      (try simp only [Act.put, List.setIfInBounds_toArray, List.set_cons_zero, List.set_cons_succ])
      refine wpAnyH_ready (rs := [0]) (by kernel_rfl) (by simp) ?_
      refine' (AllReadyH.cons (o := _) ?hir26_0 (fun K hK => ?br26_0) AllReadyH.nil)
      case hir26_0 => (simp only [List.getElem?_toArray, List.getElem?_cons_succ, List.getElem?_cons_zero]; rfl)
      case br26_0 =>
        refine step_of_wp rfl ?_
        refine wp_load_row 28 (.tmp 6) rfl g6 rfl 28 cb (0, 0) _ (H6.out.2.1.old HB1.out) Tryd.underlying28 rfl okb.out.1 ?_
        refine hK.out _ _ ?_ (fun hHeld => ?_)
        exact Far.of HB1.out
        clear hK K
        (try simp only [Act.put, List.setIfInBounds_toArray, List.set_cons_zero, List.set_cons_succ])
        refine wpAnyH_ready (rs := [1]) (by kernel_rfl) (by simp) ?_
        refine' (AllReadyH.cons (o := _) ?hir28_1 (fun K hK => ?br28_1) AllReadyH.nil)
        case hir28_1 => (simp only [List.getElem?_toArray, List.getElem?_cons_succ, List.getElem?_cons_zero]; rfl)
        case br28_1 =>
          go_simp
          refine (HSQ1.out _ (HP.out.old (H6.out.1.2.2.trans (HB1.out.mono H6.out.1.2.2.size)))).mono ?_
          rintro e w29 ⟨rfl, hb29⟩
          have H29 := Lib.hid (HB1.out.trans (hb29.mono HB1.out.size))
          clear hb29
          go_wp2_with fail
          refine hK.out _ _ ?_ (fun hHeld => ?_)
          exact Far.of H29.out
          clear hK K
          (try simp only [Act.put, List.setIfInBounds_toArray, List.set_cons_zero, List.set_cons_succ])
          refine wpAnyH_ready (rs := [3]) (by kernel_rfl) (by simp) ?_
          refine' (AllReadyH.cons (o := _) ?hir30_3 (fun K hK => ?br30_3) AllReadyH.nil)
          case hir30_3 => (simp only [List.getElem?_toArray, List.getElem?_cons_succ, List.getElem?_cons_zero]; rfl)
          case br30_3 =>
            go_simp
            refine (HML1.out _ (HP.out.old (H6.out.1.2.2.trans (H29.out.mono H6.out.1.2.2.size)))).mono ?_
            rintro e w31 ⟨rfl, hb31⟩
            have H31 := Lib.hid (H29.out.trans (hb31.mono H29.out.size))
            clear hb31
            go_wp2_with fail
            refine hK.out _ _ ?_ (fun hHeld => ?_)
            exact Far.of H31.out
            clear hK K
            (try simp only [Act.put, List.setIfInBounds_toArray, List.set_cons_zero, List.set_cons_succ])
            refine wpAnyH_ready (rs := [4]) (by kernel_rfl) (by simp) ?_
            refine' (AllReadyH.cons (o := _) ?hir32_4 (fun K hK => ?br32_4) AllReadyH.nil)
            case hir32_4 => (simp only [List.getElem?_toArray, List.getElem?_cons_succ, List.getElem?_cons_zero]; rfl)
            case br32_4 =>
              refine step_of_wp rfl ?_
              refine wp_store_row 28 (.tmp 6) (.tmp 26) rfl g6 cd rfl rfl 28 cb (H6.out.2.1.old H31.out) okd.out.1 okb.out.2.2.2 okd.out.2.1 ?_
              refine hK.out _ _ ?_ (fun hHeld => ?_)
              exact (Far.of H31.out).row _
              clear hK K
              (try simp only [Act.put, List.setIfInBounds_toArray, List.set_cons_zero, List.set_cons_succ])
              refine wpAnyH_done (by kernel_rfl) ?_ _
              have H7 := Lib.hid ((H6.out.next H31.out).third cd)
              generalize World.setRow _ g6 cd = V2 at *
              go_wp2_with (first | (refine wpList_load_row rfl 28 (.tmp 6) rfl g6 rfl 28 cd (0, 0) _ H7.out.2.1 Tryd.underlying28 rfl okd.out.1 ?_) |
                (refine wpList_store_row rfl 28 (.tmp 4) (.tmp 27) rfl (w.heap.size + 1) cd rfl rfl 28 _ H7.out.1.2.1 okd.out.1 okd.out.2.2 okd.out.2.1 ?_))
              refine bodyPost_ret (v := .agg cd) ?_ rfl ⟨by rw [hres.out], (H7.out.1.snd cd).2.2⟩
              exact results_cell_row Tryd.results64 _ _ (w.heap.size + 1) 28 cd (0, 0) _ rfl (H7.out.1.snd cd).2.1 Tryd.underlying28 rfl okd.out.1
end Go.Proofs.YtjiadbaaggifpaaDoor
end

section
set_option linter.unusedVariables false
set_option linter.unusedSimpArgs false
namespace Go.Proofs.YtjiadbaaggifpaaDoor
open Go Go.Proofs Go.RowKit F5

theorem getd_arith {v i k j : Nat} (hij : i = 8 * k + j) (hj : j < 8) (hk : k < 4) (d : Nat) (hd : d = v / 256 ^ i % 256) :
    (v % 256 ^ i) / M ^ k % M < 2 ^ (8 * j) ∧ (v % 256 ^ i) / M ^ k % M + d * 2 ^ (8 * j) < M ∧
    (digs M (v % 256 ^ i) 4).set k ((v % 256 ^ i) / M ^ k % M + d * 2 ^ (8 * j)) = digs M (v % 256 ^ (i + 1)) 4 := by
  have e1 : (256 : Nat) ^ i = M ^ k * 2 ^ (8 * j) := by
    rw [hij, Nat.pow_add, Nat.pow_mul, show (256 : Nat) ^ 8 = M from rfl, Nat.pow_mul]
  have hp : 0 < M ^ k := Nat.pow_pos (by decide)
  have h1 : (v % 256 ^ i) / M ^ k < 2 ^ (8 * j) := by
    rw [Nat.div_lt_iff_lt_mul hp, Nat.mul_comm, ← e1]
    exact Nat.mod_lt _ (Nat.pow_pos (by decide))
  have hjM : 2 ^ (8 * j) * 256 ≤ M := by
    have : 2 ^ (8 * j) * 256 = 2 ^ (8 * j + 8) := by rw [Nat.pow_add]
    rw [this]
    exact Nat.pow_le_pow_right (by decide) (by omega : 8 * j + 8 ≤ 64)
  have hd2 : d < 256 := by rw [hd]; exact Nat.mod_lt _ (by decide)
  have h2 : (v % 256 ^ i) / M ^ k % M = (v % 256 ^ i) / M ^ k := Nat.mod_eq_of_lt (by
    have : 2 ^ (8 * j) ≤ 2 ^ (8 * j) * 256 := Nat.le_mul_of_pos_right _ (by decide)
    omega)
  have h3 : (v % 256 ^ i) / M ^ k + d * 2 ^ (8 * j) < M := by
    have : d * 2 ^ (8 * j) ≤ 255 * 2 ^ (8 * j) := Nat.mul_le_mul_right _ (by omega)
    omega
  rw [h2]
  refine ⟨h1, h3, ?_⟩
  have hlt : v % 256 ^ i < M ^ 4 := by
    have : (256 : Nat) ^ i ≤ M ^ 4 := by
      rw [show M ^ 4 = 256 ^ 32 by decide]; exact Nat.pow_le_pow_right (by decide) (by omega)
    exact Nat.lt_of_lt_of_le (Nat.mod_lt _ (Nat.pow_pos (by decide))) this
  refine digs_of ((digs_all (by decide) _ _ : All M _).set h3) (by rw [List.length_set, digs_length]) ?_
  have hv := val_set M (digs M (v % 256 ^ i) 4) k ((v % 256 ^ i) / M ^ k + d * 2 ^ (8 * j)) (by rw [digs_length]; exact hk)
  rw [val_digs, Nat.mod_eq_of_lt hlt, digs_getD _ _ _ _ hk, h2, Nat.mul_add] at hv
  have e2 : M ^ k * (d * 2 ^ (8 * j)) = 256 ^ i * d := by rw [e1, Nat.mul_comm d, Nat.mul_assoc]
  rw [e2] at hv
  rw [Nat.pow_succ, Nat.mod_mul, ← hd]
  omega

theorem fbytes_inj {n m : Nat} (hn : n < 2 ^ 256) (hm : m < 2 ^ 256) : fbytes n = fbytes m ↔ n = m := by
  constructor
  · intro h
    have h2 : digs 256 n 32 = digs 256 m 32 := by
      apply List.ext_getElem?
      intro i
      by_cases hi : i < 32
      · have e : ((fbytes n).getD i 0).toNat = ((fbytes m).getD i 0).toNat := by rw [h]
        rw [fbytes_get _ _ hi, fbytes_get _ _ hi, ← digs_getD 256 n 32 i hi, ← digs_getD 256 m 32 i hi] at e
        rw [List.getD_eq_getElem?_getD, List.getD_eq_getElem?_getD, List.getElem?_eq_getElem (by rw [digs_length]; exact hi), List.getElem?_eq_getElem (by rw [digs_length]; exact hi)] at e
        rw [List.getElem?_eq_getElem (by rw [digs_length]; exact hi), List.getElem?_eq_getElem (by rw [digs_length]; exact hi)]
        simpa using e
      · rw [List.getElem?_eq_none (by rw [digs_length]; omega), List.getElem?_eq_none (by rw [digs_length]; omega)]
    exact digs_inj h2 (show n < 256 ^ 32 from hn) (show m < 256 ^ 32 from hm)
  · rintro rfl; rfl
/-- Any 32 bytes are a number's. -/
theorem fbytes_of (l : List UInt8) (h : l.length = 32) : ∃ v, v < 2 ^ 256 ∧ l = fbytes v := by
  have ha : All 256 (l.map UInt8.toNat) := fun x hx => by
    obtain ⟨b, _, rfl⟩ := List.mem_map.1 hx
    exact b.toNat_lt
  refine ⟨val 256 (l.map UInt8.toNat), ?_, ?_⟩
  · have := val_lt _ ha
    rwa [List.length_map, h] at this
  · have hd := digs_val _ ha
    rw [List.length_map, h] at hd
    unfold fbytes
    rw [hd, List.map_map]
    have : (UInt8.ofNat ∘ UInt8.toNat) = id := by funext x; simp
    rw [this, List.map_id]

def GetAt (v i : Nat) (w wr : World) : Prop :=
  Blk wr (w.heap.size + 1) 26 (limA (v % 256 ^ i)) ∧ Blk wr w.heap.size 28 (limA 0) ∧ Below w.heap.size w wr
theorem GetAt.drew {v i : Nat} {w wr : World} (h : GetAt v i w wr) : GetAt v i w wr.drew := ⟨h.1.drew, h.2.1.drew, h.2.2.drew⟩
theorem limA0 : limA 0 = #[.int .u64 0, .int .u64 0, .int .u64 0, .int .u64 0] := rfl

theorem arr32 (p : Option Addr) (n c : Nat) (hn : 32 ≤ n) (W : World) : (Instr.arrayAt 40 (.slice p n c)).run Tryd.prog W = .ok (.pointer p) W := run_arrayAt W _ _ 32 p n c Tryd.underlying40 hn
theorem run_loadVar_add {P : Program} (w : World) (ad : Addr) (t e : TypeId) (n : Nat) (cs : Array Value) (hu : P.underlying t = some (.array n e)) (hi : (P.info? t).map (·.size) = some cs.size)
    (hc : ∀ j v, cs[j]? = some v → w.cell? (ad.add j) = some v) : (loadVar t ad).run P w = .ok (.agg cs) w := by
  have hl : (loadCells ad cs.toList.length).run P w = .ok cs.toList.toArray w := run_loadCells_list (P := P) w ad cs.toList (fun j v hv => hc j v (by simpa using hv))
  cases hq : P.info? t with
  | none => simp [hq] at hi
  | some i =>
    have hs : i.size = cs.size := by simpa [hq] using hi
    have hagg : (isAgg t).run P w = .ok true w := by
      unfold isAgg
      rw [Sem.run_bind, run_underlying hu w]
      simp [Result.andThen]
    simp only [Array.length_toList, Array.toArray_toList] at hl
    simp [loadVar, Sem.run_bind, hagg, sizeOf, typeInfo, hq, hs, hl, Result.andThen]
theorem quiet_load_add {P : Program} {o : Oper} {ev : Operand → Value} {w : World} (t : TypeId) (x : Operand) (ad : Addr) (hx : ev x = .pointer (some ad)) (e : TypeId) (n : Nat) (cs : Array Value)
    (hu : P.underlying t = some (.array n e)) (hi : (P.info? t).map (·.size) = some cs.size) (hc : ∀ j v, cs[j]? = some v → w.cell? (ad.add j) = some v) (ho : o.op = .load t x) : (execOp ev o).run P w = .ok (.value (.agg cs)) w := by
  unfold execOp
  simp only [ho, hx, Instr.loadAt, Instr.sureAddr, Sem.run_bind, Sem.run_pure, Result.andThen_ok, run_loadVar_add w ad t e n cs hu hi hc]
theorem results_row_tmp1 {fn : Func} {p u : Tmp} {ty : TypeId} {P : Program} (h : fn.results = #[.cell p ty, .tmp u]) (tmps : Array Value) (w : World) (g : Nat) (t : TypeId) (cs : Array Value) (v : Value) (l : Array Field)
    (hp : tmps.getD p undef = .pointer (some ⟨g, 0, none⟩)) (hv : tmps.getD u undef = v) (hg : Blk w g t cs) (hu : P.underlying ty = some (.struct l)) (hi : (P.info? ty).map (·.size) = some cs.size) :
    (results fn tmps).run P w = .ok (.tuple #[.agg cs, v]) w := by
  rw [results_cell_tmp h, hp, hv]
  have hl := run_loadVar_row w g t ty cs (0, 0) _ hg hu rfl hi
  simp [asAddr, Result.andThen, hl]
theorem quiet_neq_bytes {o : Oper} {ev : Operand → Value} (w : World) (x y : Operand) (k : TypeId) (l l' : List UInt8) (hl : l.length = 32) (hl' : l'.length = 32) (hx : ev x = .agg (bytesA l)) (hy : ev y = .agg (bytesA l'))
    (ho : o.op = .binOp .neq 40 x y k) : (execOp ev o).run Tryd.prog w = .ok (.value (.bool (!decide (l = l')))) w := by
  have hg : (eqGuard .neq 40 x y (.agg (bytesA l)) (.agg (bytesA l'))).run Tryd.prog w = .ok () w := run_eqGuard_agg w .neq _ x y _ _ (by kernel_rfl)
  unfold execOp
  simp only [ho, hx, hy, Sem.run_bind, hg, Result.andThen_ok, run_neq_bytes Tryd.underlying40 l l' hl hl' w, Sem.run_pure]

set_option maxHeartbeats 4000000 in
set_option maxRecDepth 100000 in
theorem get_32 (v : Nat) (hv : v < 2 ^ 256) (ad : Addr) (c : Nat) (w : World) (hr : Reads w w.heap.size 1 (some ad) 32 (Lib.byteCells (fbytes v))) (hP : PrimeAt w) :
    Calls Tryd.prog 28 #[.slice (some ad) 32 c] w fun e w' => e = .returned (.tuple #[elemV (if v < P then v else 0), .int .i64 (if v < P then 0 else 6)]) ∧ Below w.heap.size w w' := by
  have hal : Tryd.prog.arrayLen 26 = 4 := by kernel_rfl
  have hel : Tryd.prog.elem 26 = 24 := by kernel_rfl
  have HR := Lib.hid hr
  have HV := Lib.hid hv
  have HP := Lib.hid hP
  clear hr hv hP
  go_enter Tryd.func28, Tryd.ntmps28
  go_wp2
  go_loopg [5, 6, 18] 32 (fun g _ _ iv wr => ∃ i, iv = .int .i64 (i : Nat) ∧ g + i = 32 ∧ GetAt v i w wr)
  case atStart =>
    refine ⟨0, rfl, rfl, ?_, (Blk.new w _ (limA 0)).alloc _, ((Below.refl _ _).alloc (Nat.le_refl _) _).alloc (by simp) _⟩
    rw [Nat.pow_zero, Nat.mod_one]
    have := Blk.new (w.alloc (.cells (limA 0) 28)) 26 (limA 0)
    rwa [show (w.alloc (.cells (limA 0) 28)).heap.size = w.heap.size + 1 by simp] at this
  case round =>
    obtain ⟨i, rfl, hg, b1, b2, hb⟩ := hrel
    by_cases hlt : i < 32
    · have hrw := HR.out.below hb
      obtain ⟨ad', hA, hadb, hcell⟩ := hrw.2 (by omega)
      injection hA with hA
      subst hA
      have g0 := hcell i _ (show (Lib.byteCells (fbytes v))[i]? = some (.int .u8 (((fbytes v).getD i 0).toNat : Int)) by
        have h1 : i < (fbytes v).length := by rw [fbytes_length]; omega
        simp [Lib.byteCells, List.getD, List.getElem?_eq_getElem h1])
      obtain ⟨d, hd⟩ := named ((fbytes v).getD i 0).toNat
      have hdl : d < 256 := by rw [hd.out]; exact ((fbytes v).getD i 0).toNat_lt
      have hdv : d = v / 256 ^ i % 256 := by rw [hd.out, fbytes_get _ _ hlt]
      rw [← hd.out] at g0
      obtain ⟨k, hk⟩ : ∃ k, k = i / 8 := ⟨_, rfl⟩
      obtain ⟨j, hj⟩ : ∃ j, j = i % 8 := ⟨_, rfl⟩
      have hij : i = 8 * k + j := by omega
      have hk4 : k < 4 := by omega
      have hj8 : j < 8 := by omega
      have hdiv : (i : Int) / 8 = (k : Int) := by omega
      have hmod : (i : Int) % 8 = (j : Int) := by omega
      obtain ⟨a1, a2, a3⟩ := getd_arith hij hj8 hk4 d hdv
      have hx : wr.cell? ⟨w.heap.size + 1, k, none⟩ = some (.int .u64 (((v % 256 ^ i) / M ^ k % M : Nat) : Int)) := (b1.cell k).trans (limA_get _ _ hk4)
      have hf := b1.frozen k
      obtain ⟨x, hX⟩ := named ((v % 256 ^ i) / M ^ k % M)
      rw [← hX.out] at a1 a2 a3 hx
      obtain ⟨s, hs⟩ := named (d * 2 ^ (8 * j))
      rw [← hs.out] at a2 a3
      have hxs : x + s < M := a2
      obtain ⟨y, hY⟩ := named (x + s)
      rw [← hY.out] at a2 a3
      have hor : bits .or .u64 (x : Int) (s : Int) = (y : Int) := by
        rw [bits_or_u64_nat _ _ (by unfold M at hxs; omega) (by unfold M at hxs; omega), hY.out, hs.out]
        congr 1
        rw [Nat.or_comm, Nat.mul_comm d, Nat.add_comm]
        exact (Nat.two_pow_add_eq_or_of_lt a1 d).symm
      have hsh : IntKind.u64.wrap ((d : Int) * 2 ^ (j * 8)) = (s : Int) := by
        rw [IntKind.wrap_u64, hs.out]
        have : d * 2 ^ (8 * j) < 18446744073709551616 := by rw [← hs.out]; unfold M at hxs; omega
        rw [show ((d : Int) * 2 ^ (j * 8)) = ((d * 2 ^ (8 * j) : Nat) : Int) by rw [Nat.mul_comm 8 j]; simp]
        omega
      have hmin : min (j * 8) 64 = j * 8 := by omega
      have ht : ((j : Int) * 8).toNat = j * 8 := by omega
      have hcv : IntKind.u64.wrap (d : Int) = (d : Int) := by rw [IntKind.wrap_u64]; omega
      have hn2 : Hid (GetAt v (i + 1) w (wr.setCell ⟨w.heap.size + 1, k, none⟩ (.int .u64 (y : Int)))) := Lib.hid (by
        refine ⟨?_, b2.far (by show w.heap.size ≠ w.heap.size + 1; omega) _, hb.setCell (by show w.heap.size ≤ w.heap.size + 1; omega) _⟩
        have := Blk.set_ b1 k (.int .u64 (y : Int))
        rw [limA, u64s_set, a3] at this
        exact this)
      have HA1 := Lib.hid a1
      have HA2 := Lib.hid a2
      clear b1 b2 hb hcell hrw hk hj hij a1 a2 a3 hdv hdl hxs
      go_wp2
      go_region
      have hnd := Lib.hid hn2.out.drew
      clear hn2
      go_wp2
      go_roundg (gk - 1)
      case measure => omega
      case rel => exact ⟨i + 1, by go_num, by omega, hnd.out⟩
    · obtain rfl : i = 32 := by omega
      rw [Nat.mod_eq_of_lt (show v < 256 ^ 32 from HV.out)] at b1
      have B1 := Lib.hid b1
      have B2 := Lib.hid b2
      have HBL := Lib.hid hb
      have hsz := b1.lt
      have hRi := Lib.hid (limA_info v)
      have hRe := Lib.hid (limA_infoE v)
      have hR1 := Lib.hid (limA_one v)
      have hBD := Lib.hid (built_lim v)
      have hzz : Hid ((#[.int .u64 0, .int .u64 0, .int .u64 0, .int .u64 0] : Array Value).size = (limA v).size) := Lib.hid (by rw [limA_size]; rfl)
      clear b1 b2 hb hg
      go_wp2_with (first | (refine wpList_load_row rfl 26 (.tmp 4) rfl (w.heap.size + 1) rfl 26 (limA v) (0, 0) _ B1.out Tryd.underlying26 rfl hRi.out ?_) |
        (refine wpList_build_to rfl 28 #[(0, .tmp 36)] rfl [(0, .agg (limA v))] (by simp [Act.eval, Act.put]) (limA v) hBD.out ?_) |
        (refine wpList_store_row rfl 28 (.tmp 7) (.tmp 37) rfl wr.heap.size (limA v) rfl rfl 28 _ (heap_alloc_new wr _) hRe.out hzz.out hR1.out ?_; rw [setRow_alloc1]))
      have hB4 := (Blk.new wr 28 (limA v)).nilmid
      have hp4 := (HP.out.old HBL.out).old ((Below.refl wr.heap.size wr).alloc (Nat.le_refl _) (.cells (limA v) 28))
      refine (round_any wr.heap.size 0 28 [] (digs M v 4) [] _ hB4 rfl (digs_length _ _ _) (limA_all v) (by have := HP.out.1; omega) hp4).mono ?_
      rintro e w5 ⟨rfl, hB5, hg5⟩
      rw [val_digs, Nat.mod_eq_of_lt (show v < M ^ 4 from HV.out), subP_P (show v < M ^ 4 from HV.out), nil_mid] at hB5
      obtain ⟨u, hu⟩ := named (if P ≤ v then v - P else v)
      rw [← hu.out] at hB5
      have B5 : Hid (Blk w5 wr.heap.size 28 (limA u)) := Lib.hid hB5
      have hb5 : Below wr.heap.size wr w5 := ((Below.refl _ _).alloc (Nat.le_refl _) _).grown hg5 (by simp) (fun k hk => by injection hk with hk; omega)
      have HB5 : Hid (Below w.heap.size w w5) := Lib.hid (HBL.out.trans (hb5.mono HBL.out.size))
      have B25 := Lib.hid (B2.out.old hb5)
      have hszr := Lib.hid hsz
      have hul : u < 2 ^ 256 := by rw [hu.out]; have := HV.out; split <;> omega
      have huv : (fbytes u = fbytes v) ↔ v < P := by
        rw [fbytes_inj hul HV.out, hu.out]
        split <;> (have : 0 < P := by decide) <;> omega
      have HUV := Lib.hid huv
      have HUL := Lib.hid hul
      clear hB4 hp4 hB5 hg5 hb5 hul huv hsz
      go_wp2_with fail
      have harr := arr32 (some ad) 32 c (by omega)
      have hcells : Hid (∀ W, Below w5.heap.size w5 W → ∀ j v', (bytesA (fbytes v))[j]? = some v' → W.cell? (ad.add j) = some v') := Lib.hid (by
        intro W hW j v' hj
        have hrw := (HR.out.below HB5.out).more HB5.out.size
        obtain ⟨ad', hA, hadb, hcell⟩ := (hrw.below hW).2 (by omega)
        injection hA with hA
        subst hA
        exact hcell j v' (by rw [bytesA, List.getElem?_toArray] at hj; exact hj))
      have hRu := Lib.hid (limA_infoE u)
      have hbd : Below w5.heap.size w5 w5.drew := (Below.refl _ _).drew
      refine wp_region_held_drew (S := fun W => Below w5.heap.size w5 W) (by kernel_rfl) hbd (fun hHeld => ?_)
      refine' wpAnyH_take (i := 0) (oi := _) (v := .agg (limA u)) ?hit0 ?hst0 ?hft0 ?hrt0 ?hQt0 ?hyt0 ?hSt0 ?_
      case hit0 => (simp only [List.getElem?_toArray, List.getElem?_cons_succ, List.getElem?_cons_zero]; rfl)
      case hst0 => kernel_rfl
      case hft0 => kernel_rfl
      case hrt0 => kernel_rfl
      case hQt0 => exact fun _ _ _ h => h
      case hSt0 => assumption
      case hyt0 =>
        refine Or.inl ⟨by rfl, ?_⟩
        intro W hS
        exact quiet_load_row 28 (.tmp 7) wr.heap.size rfl 28 (limA u) _ (B5.out.old hS) Tryd.underlying28 rfl hRu.out rfl
      (try simp only [Act.put, List.setIfInBounds_toArray, List.set_cons_zero, List.set_cons_succ])
      refine' wpAnyH_take (i := 2) (oi := _) (v := _) ?hit2 ?hst2 ?hft2 ?hrt2 ?hQt2 ?hyt2 ?hSt2 ?_
      case hit2 => (simp only [List.getElem?_toArray, List.getElem?_cons_succ, List.getElem?_cons_zero]; rfl)
      case hst2 => kernel_rfl
      case hft2 => kernel_rfl
      case hrt2 => kernel_rfl
      case hQt2 => exact fun _ _ _ h => h
      case hSt2 => assumption
      case hyt2 =>
        refine Or.inl ⟨by rfl, ?_⟩
        intro w hSw
        (try dsimp only at hSw)
        go_simp
        all_goals (with_reducible rfl)
      (try simp only [Act.put, List.setIfInBounds_toArray, List.set_cons_zero, List.set_cons_succ])
      refine' wpAnyH_take (i := 3) (oi := _) (v := _) ?hit3 ?hst3 ?hft3 ?hrt3 ?hQt3 ?hyt3 ?hSt3 ?_
      case hit3 => (simp only [List.getElem?_toArray, List.getElem?_cons_succ, List.getElem?_cons_zero]; rfl)
      case hst3 => kernel_rfl
      case hft3 => kernel_rfl
      case hrt3 => kernel_rfl
      case hQt3 => exact fun _ _ _ h => h
      case hSt3 => assumption
      case hyt3 =>
        refine Or.inl ⟨by rfl, ?_⟩
        intro w hSw
        (try dsimp only at hSw)
        go_simp
        all_goals (with_reducible rfl)
      (try simp only [Act.put, List.setIfInBounds_toArray, List.set_cons_zero, List.set_cons_succ])
      refine' wpAnyH_take (i := 4) (oi := _) (v := .agg (bytesA (fbytes v))) ?hit4 ?hst4 ?hft4 ?hrt4 ?hQt4 ?hyt4 ?hSt4 ?_
      case hit4 => (simp only [List.getElem?_toArray, List.getElem?_cons_succ, List.getElem?_cons_zero]; rfl)
      case hst4 => kernel_rfl
      case hft4 => kernel_rfl
      case hrt4 => kernel_rfl
      case hQt4 => exact fun _ _ _ h => h
      case hSt4 => assumption
      case hyt4 =>
        refine Or.inl ⟨by rfl, ?_⟩
        intro W hS
        exact quiet_load_add 40 (.tmp 43) ad rfl _ _ (bytesA (fbytes v)) Tryd.underlying40 (fbytes_info v) (hcells.out _ hS) rfl
      (try simp only [Act.put, List.setIfInBounds_toArray, List.set_cons_zero, List.set_cons_succ])
      refine wpAnyH_ready (rs := [1]) (by kernel_rfl) (by simp) ?_
      refine' AllReadyH.cons (o := _) ?hir1 (fun K hK => ?_) AllReadyH.nil
      case hir1 => (simp only [List.getElem?_toArray, List.getElem?_cons_succ, List.getElem?_cons_zero]; rfl)
      go_simp
      go_at_call 39
      refine (bytes_e u _).mono ?_
      rintro e w6 ⟨rfl, hb6⟩
      refine hK.out _ _ ?_ (fun hHeld => ?_)
      exact hbd.trans (hb6.mono hbd.size)
      clear hK K
      (try simp only [Act.put, List.setIfInBounds_toArray, List.set_cons_zero, List.set_cons_succ])
      refine' wpAnyH_take (i := 5) (oi := _) (v := .bool (!decide (fbytes u = fbytes v))) ?hit5 ?hst5 ?hft5 ?hrt5 ?hQt5 ?hyt5 ?hSt5 ?_
      case hit5 => (simp only [List.getElem?_toArray, List.getElem?_cons_succ, List.getElem?_cons_zero]; rfl)
      case hst5 => kernel_rfl
      case hft5 => kernel_rfl
      case hrt5 => kernel_rfl
      case hQt5 => exact fun _ _ _ h => h
      case hSt5 => assumption
      case hyt5 =>
        refine Or.inl ⟨by rfl, ?_⟩
        intro W hS
        exact quiet_neq_bytes W (.tmp 41) (.tmp 44) 40 _ _ (fbytes_length _) (fbytes_length _) rfl rfl rfl
      (try simp only [Act.put, List.setIfInBounds_toArray, List.set_cons_zero, List.set_cons_succ])
      refine wpAnyH_done (by kernel_rfl) ?_ _
      have hb6' := HB5.out.trans ((hbd.trans (hb6.mono hbd.size)).mono HB5.out.size)
      have B26 := Lib.hid (B25.out.old (hbd.trans (hb6.mono hbd.size)))
      have B56 := Lib.hid (B5.out.old (hbd.trans (hb6.mono hbd.size)))
      have HB6 := Lib.hid hb6'
      clear hb6' hb6 hbd hHeld
      have hz4 : Hid ((limA 0).size = (limA u).size) := Lib.hid (by rw [limA_size, limA_size])
      have hu1 := Lib.hid (limA_one u)
      by_cases hvP : v < P
      · have he : decide (fbytes u = fbytes v) = true := by rw [decide_eq_true_eq]; exact HUV.out.2 hvP
        rw [he]
        have huv : Hid (u = v) := Lib.hid (by rw [hu.out, if_neg (by omega)])
        go_wp2_with (first | (refine wpList_load_row rfl 28 (.tmp 7) rfl wr.heap.size rfl 28 (limA u) (0, 0) _ B56.out Tryd.underlying28 rfl hRu.out ?_) |
          (refine wpList_store_row rfl 28 (.tmp 2) (.tmp 47) rfl w.heap.size (limA u) rfl rfl 28 _ B26.out hRu.out hz4.out hu1.out ?_))
        refine bodyPost_ret (v := .tuple #[.agg (limA u), .int .i64 0]) ?_ rfl ⟨by rw [huv.out]; rfl, below_row HB6.out (Nat.le_refl _) _⟩
        exact results_row_tmp1 Tryd.results28 _ _ w.heap.size 28 _ _ _ rfl rfl (B26.out.row _) Tryd.underlying28 hRu.out
      · have he : decide (fbytes u = fbytes v) = false := by rw [decide_eq_false_iff_not]; exact fun h => hvP (HUV.out.1 h)
        rw [he]
        go_wp2_with (first | (refine wpList_store_row rfl 28 (.tmp 2) (.tmp 46) rfl w.heap.size (limA 0) rfl rfl 28 _ B26.out (limA_infoE 0) rfl (limA_one 0) ?_))
        refine bodyPost_ret (v := .tuple #[.agg (limA 0), .int .i64 6]) ?_ rfl ⟨rfl, below_row HB6.out (Nat.le_refl _) _⟩
        exact results_row_tmp1 Tryd.results28 _ _ w.heap.size 28 _ _ _ rfl rfl (B26.out.row _) Tryd.underlying28 (limA_infoE 0)

set_option maxHeartbeats 1000000 in
set_option maxRecDepth 100000 in
theorem get_short (A : Option Addr) (n c : Nat) (hn : n < 32) (w : World) :
    Calls Tryd.prog 28 #[.slice A n c] w fun e w' => e = .returned (.tuple #[elemV 0, .int .i64 2]) ∧ Below w.heap.size w w' := by
  have hd : decide (n < 32) = true := by simpa using hn
  go_enter Tryd.func28, Tryd.ntmps28
  go_wp2
  refine bodyPost_ret (v := .tuple #[.agg (limA 0), .int .i64 2]) ?_ rfl ⟨rfl, (Below.refl _ _).alloc (Nat.le_refl _) _⟩
  exact results_row_tmp1 Tryd.results28 _ _ w.heap.size 28 _ _ _ rfl rfl (Blk.new w _ _) Tryd.underlying28 (limA_infoE 0)
set_option maxHeartbeats 1000000 in
set_option maxRecDepth 100000 in
theorem get_long (A : Option Addr) (n c : Nat) (hn : 32 < n) (w : World) :
    Calls Tryd.prog 28 #[.slice A n c] w fun e w' => e = .returned (.tuple #[elemV 0, .int .i64 4]) ∧ Below w.heap.size w w' := by
  have hd : decide (n < 32) = false := by simp; omega
  have hd2 : decide (32 < n) = true := by simpa using hn
  go_enter Tryd.func28, Tryd.ntmps28
  go_wp2
  refine bodyPost_ret (v := .tuple #[.agg (limA 0), .int .i64 4]) ?_ rfl ⟨rfl, (Below.refl _ _).alloc (Nat.le_refl _) _⟩
  exact results_row_tmp1 Tryd.results28 _ _ w.heap.size 28 _ _ _ rfl rfl (Blk.new w _ _) Tryd.underlying28 (limA_infoE 0)
end Go.Proofs.YtjiadbaaggifpaaDoor
end

section
set_option linter.unusedVariables false
set_option linter.unusedSimpArgs false
namespace Go.Proofs.YtjiadbaaggifpaaDoor
open Go Go.Proofs Go.RowKit F5

/-- The limbs of turn stand in their variable. -/
def TurnAt (w : World) : Prop := 2 < w.heap.size ∧ ∀ j v, (limA I4)[j]? = some v → w.cell? ⟨2, 0 + j, none⟩ = some v
theorem TurnAt.old {w w' : World} (h : TurnAt w) (hb : Below w.heap.size w w') : TurnAt w' :=
  ⟨Nat.lt_of_lt_of_le h.1 hb.size, fun j v hj => (hb.cell (p := ⟨2, 0 + j, none⟩) h.1).trans (h.2 j v hj)⟩

theorem mul_pw (n a b : Nat) (V : World) (hV : PrimeAt V) : Calls Tryd.prog 38 #[.agg (limA (pw n a)), .agg (limA (pw n b))] V fun e w' => e = .returned (.agg (limA (pw n (a + b)))) ∧ Below V.heap.size V w' := by
  have := mul_e (pw n a) (pw n b) (pw_lt _ _) (pw_lt _ _) V hV
  rwa [pw_add] at this
theorem sq_pw (n a t : Nat) (ti : Int) (hti : ti = (t : Int)) (ht : t ≤ 1000) (V : World) (hV : PrimeAt V) : Calls Tryd.prog 63 #[.agg (limA (pw n a)), .int .i64 ti] V fun e w' => e = .returned (.agg (limA (pw n (a * 2 ^ t)))) ∧ Below V.heap.size V w' := by
  have := squared_any (pw n a) t (pw_lt _ _) ht V hV
  rw [pw_pw] at this
  rw [hti]; exact this
theorem ones_pw (n c : Nat) (ci : Int) (hci : ci = (c : Int)) (hc1 : 1 ≤ c) (hc : c ≤ 1000) (hn : n < P) (V : World) (hV : PrimeAt V) : Calls Tryd.prog 64 #[.agg (limA n), .int .i64 ci] V fun e w' => e = .returned (.agg (limA (pw n (2 ^ c - 1)))) ∧ Below V.heap.size V w' := by
  rw [hci]; exact ones_any c hc1 hc n V hn hV
theorem limA_ok (n : Nat) : (Tryd.prog.info? 28).map (·.size) = some (limA n).size ∧ (limA n).all (·.oneCell') = true ∧ Array.size (#[.int .u64 0, .int .u64 0, .int .u64 0, .int .u64 0] : Array Value) = (limA n).size := ⟨limA_infoE _, limA_one _, Z4_size _⟩
theorem inv_exp (a : Nat) (h : a = 2 ^ 250 - 1) : a * 2 ^ 5 + 8 + 2 + 1 = P - 2 := by subst h; decide +kernel
theorem root_exp (a : Nat) (h : a = 2 ^ 251 - 1) : a * 2 ^ 1 = E8 := by subst h; decide +kernel

set_option maxHeartbeats 8000000 in
set_option maxRecDepth 100000 in
theorem inv_e (n : Nat) (w : World) (hn : n < P) (hP : PrimeAt w) :
    Calls Tryd.prog 37 #[elemV n] w fun e w' => e = .returned (elemV (pw n (P - 2))) ∧ Below w.heap.size w w' := by
  unfold elemV
  have HP := Lib.hid hP
  have HN := Lib.hid hn
  have h2 := Two2.new w (limA n) #[.int .u64 0, .int .u64 0, .int .u64 0, .int .u64 0]
  obtain ⟨a, ha⟩ := named (2 ^ 250 - 1)
  have hres := inv_exp a ha.out
  rw [← hres]
  have C1 : Hid (∀ V, PrimeAt V → Calls Tryd.prog 63 #[.agg (limA n), .int .i64 1] V fun e w' => e = .returned (.agg (limA (pw n 2))) ∧ Below V.heap.size V w') := Lib.hid fun V hV => by
    have := sq_pw n 1 1 1 rfl (by omega) V hV
    rwa [pw_one HN.out] at this
  have C2 : Hid (∀ V, PrimeAt V → Calls Tryd.prog 63 #[.agg (limA (pw n 2)), .int .i64 2] V fun e w' => e = .returned (.agg (limA (pw n 8))) ∧ Below V.heap.size V w') := Lib.hid fun V hV => sq_pw n 2 2 2 rfl (by omega) V hV
  have C3 : Hid (∀ V, PrimeAt V → Calls Tryd.prog 64 #[.agg (limA n), .int .i64 250] V fun e w' => e = .returned (.agg (limA (pw n a))) ∧ Below V.heap.size V w') := Lib.hid fun V hV => by
    rw [ha.out]; exact ones_pw n 250 250 rfl (by omega) (by omega) HN.out V hV
  have C4 : Hid (∀ V, PrimeAt V → Calls Tryd.prog 63 #[.agg (limA (pw n a)), .int .i64 5] V fun e w' => e = .returned (.agg (limA (pw n (a * 2 ^ 5)))) ∧ Below V.heap.size V w') := Lib.hid fun V hV => sq_pw n a 5 5 rfl (by omega) V hV
  have C5 : Hid (∀ V, PrimeAt V → Calls Tryd.prog 38 #[.agg (limA (pw n (a * 2 ^ 5))), .agg (limA (pw n 8))] V fun e w' => e = .returned (.agg (limA (pw n (a * 2 ^ 5 + 8)))) ∧ Below V.heap.size V w') := Lib.hid fun V hV => mul_pw n _ _ V hV
  have C6 : Hid (∀ V, PrimeAt V → Calls Tryd.prog 38 #[.agg (limA (pw n (a * 2 ^ 5 + 8))), .agg (limA (pw n 2))] V fun e w' => e = .returned (.agg (limA (pw n (a * 2 ^ 5 + 8 + 2)))) ∧ Below V.heap.size V w') := Lib.hid fun V hV => mul_pw n _ _ V hV
  have C7 : Hid (∀ V, PrimeAt V → Calls Tryd.prog 38 #[.agg (limA (pw n (a * 2 ^ 5 + 8 + 2))), .agg (limA n)] V fun e w' => e = .returned (.agg (limA (pw n (a * 2 ^ 5 + 8 + 2 + 1)))) ∧ Below V.heap.size V w') := Lib.hid fun V hV => by
    have := mul_pw n (a * 2 ^ 5 + 8 + 2) 1 V hV
    rwa [pw_one HN.out] at this
  have o0 := Lib.hid (limA_ok n)
  have o2 := Lib.hid (limA_ok (pw n 2))
  have o8 := Lib.hid (limA_ok (pw n 8))
  have oR := Lib.hid (limA_ok (pw n (a * 2 ^ 5 + 8 + 2 + 1)))
  clear hP hn hres
  generalize limA (pw n (a * 2 ^ 5 + 8 + 2 + 1)) = R at *
  generalize limA (pw n (a * 2 ^ 5 + 8 + 2)) = c6 at *
  generalize limA (pw n (a * 2 ^ 5 + 8)) = c5 at *
  generalize limA (pw n (a * 2 ^ 5)) = c4 at *
  generalize limA (pw n a) = c3 at *
  generalize limA (pw n 2) = x2 at *
  generalize limA (pw n 8) = x8 at *
  generalize limA n = x at *
  go_enter Tryd.func37, Tryd.ntmps37
  go_upto_region 1 with fail
  generalize (w.alloc (.cells x 28)).alloc (.cells #[.int .u64 0, .int .u64 0, .int .u64 0, .int .u64 0] 28) = W at *
  have H2 := Lib.hid h2
  clear h2
  go_upto_region 2 with (first | (refine wpList_load_row rfl 28 (.tmp 1) rfl w.heap.size rfl 28 x (0, 0) _ H2.out.1 Tryd.underlying28 rfl o0.out.1 ?_))
  refine (C1.out _ (HP.out.old H2.out.2.2)).mono ?_
  rintro e w1 ⟨rfl, hb1⟩
  have H21 := Lib.hid (H2.out.next hb1)
  clear hb1
  go_upto_region 2 with (first | (refine wpList_store_row rfl 28 (.tmp 3) (.tmp 6) rfl w1.heap.size x2 rfl rfl 28 _ (heap_alloc_new w1 _) o2.out.1 o2.out.2.2 o2.out.2.1 ?_; rw [setRow_alloc1]))
  have h3 : Three2 w x #[.int .u64 0, .int .u64 0, .int .u64 0, .int .u64 0] x2 w1.heap.size (w1.alloc (.cells x2 28)) := ⟨H21.out.next ((Below.refl _ _).alloc (Nat.le_refl _) _), Blk.new _ _ _, H21.out.lt⟩
  generalize w1.alloc (.cells x2 28) = W1 at *
  generalize w1.heap.size = g3 at *
  have H3 := Lib.hid h3
  clear h3
  go_upto_region 3 with (first | (refine wpList_load_row rfl 28 (.tmp 3) rfl g3 rfl 28 x2 (0, 0) _ H3.out.2.1 Tryd.underlying28 rfl o2.out.1 ?_))
  refine (C2.out _ (HP.out.old H3.out.1.2.2)).mono ?_
  rintro e w2 ⟨rfl, hb1⟩
  have H31 := Lib.hid (H3.out.next hb1)
  clear hb1
  go_upto_region 3 with (first | (refine wpList_store_row rfl 28 (.tmp 4) (.tmp 8) rfl w2.heap.size x8 rfl rfl 28 _ (heap_alloc_new w2 _) o8.out.1 o8.out.2.2 o8.out.2.1 ?_; rw [setRow_alloc1]))
  have h4 : Three2 w x #[.int .u64 0, .int .u64 0, .int .u64 0, .int .u64 0] x2 g3 (w2.alloc (.cells x8 28)) := H31.out.next ((Below.refl _ _).alloc (Nat.le_refl _) _)
  have h8 : Blk (w2.alloc (.cells x8 28)) w2.heap.size 28 x8 := Blk.new _ _ _
  have hg4 : w.heap.size + 1 < w2.heap.size := H31.out.1.lt
  generalize w2.alloc (.cells x8 28) = W2 at *
  generalize w2.heap.size = g4 at *
  have H4 := Lib.hid h4
  have H8 := Lib.hid h8
  have G4 := Lib.hid hg4
  clear h4 h8 hg4
  (try simp only [Act.put, List.setIfInBounds_toArray, List.set_cons_zero, List.set_cons_succ])
  refine wp_region_held_drew (S := fun V => Far (w.heap.size + 1) W2 V) (by kernel_rfl) (Far.of (Below.refl _ _).drew) (fun hHeld => ?_)
  have HBW2 := Lib.hid ((Below.refl W2.heap.size W2).drew)
  generalize W2.drew = VW2 at *
  refine' wpAnyH_take (i := 0) (oi := _) (v := .agg x) ?hit1 ?hst1 ?hft1 ?hrt1 ?hQt1 ?hyt1 ?hSt1 ?_
  case hit1 => (simp only [List.getElem?_toArray, List.getElem?_cons_succ, List.getElem?_cons_zero]; rfl)
  case hst1 => kernel_rfl
  case hft1 => kernel_rfl
  case hrt1 => kernel_rfl
  case hQt1 => exact fun _ _ _ h => h
  case hSt1 => assumption
  case hyt1 =>
    refine Or.inl ⟨by rfl, ?_⟩
    intro W hS
    exact quiet_load_row 28 (.tmp 1) _ rfl 28 x _ (hS _ _ _ (by have := H4.out.2.2; have := G4.out; omega) H4.out.1.1) Tryd.underlying28 rfl o0.out.1 rfl
  (try simp only [Act.put, List.setIfInBounds_toArray, List.set_cons_zero, List.set_cons_succ])
  refine' wpAnyH_take (i := 3) (oi := _) (v := .agg x8) ?hit2 ?hst2 ?hft2 ?hrt2 ?hQt2 ?hyt2 ?hSt2 ?_
  case hit2 => (simp only [List.getElem?_toArray, List.getElem?_cons_succ, List.getElem?_cons_zero]; rfl)
  case hst2 => kernel_rfl
  case hft2 => kernel_rfl
  case hrt2 => kernel_rfl
  case hQt2 => exact fun _ _ _ h => h
  case hSt2 => assumption
  case hyt2 =>
    refine Or.inl ⟨by rfl, ?_⟩
    intro W hS
    exact quiet_load_row 28 (.tmp 4) _ rfl 28 x8 _ (hS _ _ _ (by have := H4.out.2.2; have := G4.out; omega) H8.out) Tryd.underlying28 rfl o8.out.1 rfl
  (try simp only [Act.put, List.setIfInBounds_toArray, List.set_cons_zero, List.set_cons_succ])
  refine' wpAnyH_take (i := 5) (oi := _) (v := .agg x2) ?hit3 ?hst3 ?hft3 ?hrt3 ?hQt3 ?hyt3 ?hSt3 ?_
  case hit3 => (simp only [List.getElem?_toArray, List.getElem?_cons_succ, List.getElem?_cons_zero]; rfl)
  case hst3 => kernel_rfl
  case hft3 => kernel_rfl
  case hrt3 => kernel_rfl
  case hQt3 => exact fun _ _ _ h => h
  case hSt3 => assumption
  case hyt3 =>
    refine Or.inl ⟨by rfl, ?_⟩
    intro W hS
    exact quiet_load_row 28 (.tmp 3) _ rfl 28 x2 _ (hS _ _ _ (by have := H4.out.2.2; have := G4.out; omega) H4.out.2.1) Tryd.underlying28 rfl o2.out.1 rfl
  (try simp only [Act.put, List.setIfInBounds_toArray, List.set_cons_zero, List.set_cons_succ])
  refine' wpAnyH_take (i := 7) (oi := _) (v := .agg x) ?hit4 ?hst4 ?hft4 ?hrt4 ?hQt4 ?hyt4 ?hSt4 ?_
  case hit4 => (simp only [List.getElem?_toArray, List.getElem?_cons_succ, List.getElem?_cons_zero]; rfl)
  case hst4 => kernel_rfl
  case hft4 => kernel_rfl
  case hrt4 => kernel_rfl
  case hQt4 => exact fun _ _ _ h => h
  case hSt4 => assumption
  case hyt4 =>
    refine Or.inl ⟨by rfl, ?_⟩
    intro W hS
    exact quiet_load_row 28 (.tmp 1) _ rfl 28 x _ (hS _ _ _ (by have := H4.out.2.2; have := G4.out; omega) H4.out.1.1) Tryd.underlying28 rfl o0.out.1 rfl
  (try simp only [Act.put, List.setIfInBounds_toArray, List.set_cons_zero, List.set_cons_succ])
  refine wpAnyH_ready (rs := [1]) (by kernel_rfl) (by simp) ?_
  refine' (AllReadyH.cons (o := _) ?hir5_1 (fun K hK => ?br5_1) AllReadyH.nil)
  case hir5_1 => (simp only [List.getElem?_toArray, List.getElem?_cons_succ, List.getElem?_cons_zero]; rfl)
  case br5_1 =>
    go_simp
    refine (C3.out _ (HP.out.old (H4.out.1.2.2.trans (HBW2.out.mono H4.out.1.2.2.size)))).mono ?_
    rintro e w6 ⟨rfl, hb6⟩
    have H6 := Lib.hid (HBW2.out.trans (hb6.mono HBW2.out.size))
    clear hb6
    go_wp2_with fail
    refine hK.out _ _ ?_ (fun hHeld => ?_)
    exact Far.of H6.out
    clear hK K
    (try simp only [Act.put, List.setIfInBounds_toArray, List.set_cons_zero, List.set_cons_succ])
    refine wpAnyH_ready (rs := [2]) (by kernel_rfl) (by simp) ?_
    refine' (AllReadyH.cons (o := _) ?hir7_2 (fun K hK => ?br7_2) AllReadyH.nil)
    case hir7_2 => (simp only [List.getElem?_toArray, List.getElem?_cons_succ, List.getElem?_cons_zero]; rfl)
    case br7_2 =>
      go_simp
      refine (C4.out _ (HP.out.old (H4.out.1.2.2.trans (H6.out.mono H4.out.1.2.2.size)))).mono ?_
      rintro e w8 ⟨rfl, hb8⟩
      have H8 := Lib.hid (H6.out.trans (hb8.mono H6.out.size))
      clear hb8
      go_wp2_with fail
      refine hK.out _ _ ?_ (fun hHeld => ?_)
      exact Far.of H8.out
      clear hK K
      (try simp only [Act.put, List.setIfInBounds_toArray, List.set_cons_zero, List.set_cons_succ])
      refine wpAnyH_ready (rs := [4]) (by kernel_rfl) (by simp) ?_
      refine' (AllReadyH.cons (o := _) ?hir9_4 (fun K hK => ?br9_4) AllReadyH.nil)
      case hir9_4 => (simp only [List.getElem?_toArray, List.getElem?_cons_succ, List.getElem?_cons_zero]; rfl)
      case br9_4 =>
        go_simp
        refine (C5.out _ (HP.out.old (H4.out.1.2.2.trans (H8.out.mono H4.out.1.2.2.size)))).mono ?_
        rintro e w10 ⟨rfl, hb10⟩
        have H10 := Lib.hid (H8.out.trans (hb10.mono H8.out.size))
        clear hb10
        go_wp2_with fail
        refine hK.out _ _ ?_ (fun hHeld => ?_)
        exact Far.of H10.out
        clear hK K
        (try simp only [Act.put, List.setIfInBounds_toArray, List.set_cons_zero, List.set_cons_succ])
        refine wpAnyH_ready (rs := [6]) (by kernel_rfl) (by simp) ?_
        refine' (AllReadyH.cons (o := _) ?hir11_6 (fun K hK => ?br11_6) AllReadyH.nil)
        case hir11_6 => (simp only [List.getElem?_toArray, List.getElem?_cons_succ, List.getElem?_cons_zero]; rfl)
        case br11_6 =>
          go_simp
          refine (C6.out _ (HP.out.old (H4.out.1.2.2.trans (H10.out.mono H4.out.1.2.2.size)))).mono ?_
          rintro e w12 ⟨rfl, hb12⟩
          have H12 := Lib.hid (H10.out.trans (hb12.mono H10.out.size))
          clear hb12
          go_wp2_with fail
          refine hK.out _ _ ?_ (fun hHeld => ?_)
          exact Far.of H12.out
          clear hK K
          (try simp only [Act.put, List.setIfInBounds_toArray, List.set_cons_zero, List.set_cons_succ])
          refine wpAnyH_ready (rs := [8]) (by kernel_rfl) (by simp) ?_
          refine' (AllReadyH.cons (o := _) ?hir13_8 (fun K hK => ?br13_8) AllReadyH.nil)
          case hir13_8 => (simp only [List.getElem?_toArray, List.getElem?_cons_succ, List.getElem?_cons_zero]; rfl)
          case br13_8 =>
            go_simp
            refine (C7.out _ (HP.out.old (H4.out.1.2.2.trans (H12.out.mono H4.out.1.2.2.size)))).mono ?_
            rintro e w14 ⟨rfl, hb14⟩
            have H14 := Lib.hid (H12.out.trans (hb14.mono H12.out.size))
            clear hb14
            go_wp2_with fail
            refine hK.out _ _ ?_ (fun hHeld => ?_)
            exact Far.of H14.out
            clear hK K
            (try simp only [Act.put, List.setIfInBounds_toArray, List.set_cons_zero, List.set_cons_succ])
            refine wpAnyH_ready (rs := [9]) (by kernel_rfl) (by simp) ?_
            refine' (AllReadyH.cons (o := _) ?hir15_9 (fun K hK => ?br15_9) AllReadyH.nil)
            case hir15_9 => (simp only [List.getElem?_toArray, List.getElem?_cons_succ, List.getElem?_cons_zero]; rfl)
            case br15_9 =>
              refine step_of_wp rfl ?_
              refine wp_store_row 28 (.tmp 2) (.tmp 17) rfl (w.heap.size + 1) R rfl rfl 28 _ (H4.out.1.2.1.old H14.out) oR.out.1 oR.out.2.2 oR.out.2.1 ?_
              refine hK.out _ _ ?_ (fun hHeld => ?_)
              exact (Far.of H14.out).row _
              clear hK K
              (try simp only [Act.put, List.setIfInBounds_toArray, List.set_cons_zero, List.set_cons_succ])
              refine wpAnyH_done (by kernel_rfl) ?_ _
              have H5 := Lib.hid ((H4.out.1.next H14.out).snd R)
              generalize World.setRow _ (w.heap.size + 1) R = V2 at *
              go_wp2_with fail
              refine bodyPost_ret (v := .agg R) ?_ rfl ⟨rfl, H5.out.2.2⟩
              exact results_cell_row Tryd.results37 _ _ (w.heap.size + 1) 28 R (0, 0) _ rfl H5.out.2.1 Tryd.underlying28 rfl oR.out.1

theorem pw_two (r : Nat) : pw r (2 ^ 1) = r * r % P := by rw [pw, show 2 ^ 1 = 2 from rfl, Nat.pow_two]
theorem odd_neg {r : Nat} (h : r < P) (ho : r % 2 = 1) : (0 + P - r) % P = P - r := by
  rw [Nat.zero_add]; exact Nat.mod_eq_of_lt (by have := P_pos; omega)

set_option maxHeartbeats 8000000 in
set_option maxRecDepth 100000 in
theorem root_e (n : Nat) (w : World) (hn : n < P) (hP : PrimeAt w) (hT : TurnAt w) :
    Calls Tryd.prog 58 #[elemV n] w fun e w' => e = .returned (.tuple #[elemV (root n), .bool (decide (hasRoot n))]) ∧ Below w.heap.size w w' := by
  unfold elemV
  have HP := Lib.hid hP
  have HT := Lib.hid hT
  have HN := Lib.hid hn
  have h2 := Two2.new w (limA n) #[.int .u64 0, .int .u64 0, .int .u64 0, .int .u64 0]
  obtain ⟨a, ha⟩ := named (2 ^ 251 - 1)
  have C1 : Hid (∀ V, PrimeAt V → Calls Tryd.prog 64 #[.agg (limA n), .int .i64 251] V fun e w' => e = .returned (.agg (limA (pw n a))) ∧ Below V.heap.size V w') := Lib.hid fun V hV => by
    rw [ha.out]; exact ones_pw n 251 251 rfl (by omega) (by omega) HN.out V hV
  have C2 : Hid (∀ V, PrimeAt V → Calls Tryd.prog 63 #[.agg (limA (pw n a)), .int .i64 1] V fun e w' => e = .returned (.agg (limA (pw n E8))) ∧ Below V.heap.size V w') := Lib.hid fun V hV => by
    have := sq_pw n a 1 1 rfl (by omega) V hV
    rwa [root_exp a ha.out] at this
  have hrl : pw n E8 < P := pw_lt _ _
  have hroot1 : root1 n = if pw n E8 * pw n E8 % P = n then pw n E8 else pw n E8 * I4 % P := rfl
  generalize pw n E8 = r at *
  have HR1 := Lib.hid hroot1
  have hr1l := root1_lt n
  have hroot : Hid (root n = if hasRoot n then (if root1 n % 2 = 1 then P - root1 n else root1 n) else 0) := Lib.hid rfl
  have hhas : Hid (hasRoot n ↔ root1 n * root1 n % P = n) := Lib.hid Iff.rfl
  have C3 : Hid (∀ V, PrimeAt V → Calls Tryd.prog 63 #[.agg (limA r), .int .i64 1] V fun e w' => e = .returned (.agg (limA (r * r % P))) ∧ Below V.heap.size V w') := Lib.hid fun V hV => by
    have := squared_any r 1 hrl (by omega) V hV
    rwa [pw_two] at this
  have C4 : Hid (∀ V, Calls Tryd.prog 30 #[.agg (limA (r * r % P)), .agg (limA n)] V fun e w' => e = .returned (.bool (decide (r * r % P = n))) ∧ Below V.heap.size V w') := Lib.hid fun V => same_e _ _ (Nat.mod_lt _ P_pos) HN.out V
  have C5 : Hid (∀ V, PrimeAt V → Calls Tryd.prog 38 #[.agg (limA r), .agg (limA I4)] V fun e w' => e = .returned (.agg (limA (r * I4 % P))) ∧ Below V.heap.size V w') := Lib.hid fun V hV => mul_e r I4 hrl I4_lt V hV
  have C6 : Hid (∀ V, PrimeAt V → Calls Tryd.prog 63 #[.agg (limA (root1 n)), .int .i64 1] V fun e w' => e = .returned (.agg (limA (root1 n * root1 n % P))) ∧ Below V.heap.size V w') := Lib.hid fun V hV => by
    have := squared_any (root1 n) 1 hr1l (by omega) V hV
    rwa [pw_two] at this
  have C7 : Hid (∀ V, Calls Tryd.prog 30 #[.agg (limA (root1 n * root1 n % P)), .agg (limA n)] V fun e w' => e = .returned (.bool (decide (root1 n * root1 n % P = n))) ∧ Below V.heap.size V w') := Lib.hid fun V => same_e _ _ (Nat.mod_lt _ P_pos) HN.out V
  have C8 : Hid (∀ V, Calls Tryd.prog 40 #[.agg (limA (root1 n))] V fun e w' => e = .returned (.bool (decide (root1 n % 2 = 1))) ∧ Below V.heap.size V w') := Lib.hid fun V => odd_e _ V
  have C9 : Hid (∀ V, PrimeAt V → Calls Tryd.prog 43 #[.agg #[.int .u64 0, .int .u64 0, .int .u64 0, .int .u64 0], .agg (limA (root1 n))] V fun e w' => e = .returned (.agg (limA ((0 + P - root1 n) % P))) ∧ Below V.heap.size V w') := Lib.hid fun V hV => sub_e 0 (root1 n) P_pos hr1l V hV
  have o0 := Lib.hid (limA_ok n)
  have or := Lib.hid (limA_ok r)
  have oI := Lib.hid (limA_ok (r * I4 % P))
  have o1 := Lib.hid (limA_ok (root1 n))
  have oN := Lib.hid (limA_ok ((0 + P - root1 n) % P))
  have hsz : Hid ((limA r).size = (limA (r * I4 % P)).size ∧ (limA (root1 n)).size = (limA ((0 + P - root1 n) % P)).size) := Lib.hid ⟨by rw [limA_size, limA_size], by rw [limA_size, limA_size]⟩
  have hbt := Lib.hid (built_lim I4)
  have hti := Lib.hid (limA_info I4)
  obtain ⟨ct, hct⟩ : ∃ c, Hid (c = limA I4) := ⟨_, Lib.hid rfl⟩
  have HT2 : Hid (∀ V, TurnAt V → ∀ j v, ct[j]? = some v → V.cell? ⟨2, 0 + j, none⟩ = some v) := Lib.hid fun V hV j v hj => hV.2 j v (by rw [← hct.out]; exact hj)
  rw [← hct.out] at C5 hbt hti
  obtain ⟨b1, hb1⟩ : ∃ b, Hid (b = decide (r * r % P = n)) := ⟨_, Lib.hid rfl⟩
  obtain ⟨b2, hb2⟩ : ∃ b, Hid (b = decide (root1 n * root1 n % P = n)) := ⟨_, Lib.hid rfl⟩
  obtain ⟨b3, hb3⟩ : ∃ b, Hid (b = decide (root1 n % 2 = 1)) := ⟨_, Lib.hid rfl⟩
  rw [← hb1.out] at C4
  rw [← hb2.out] at C7
  rw [← hb3.out] at C8
  obtain ⟨x, hx⟩ : ∃ c, Hid (c = limA n) := ⟨_, Lib.hid rfl⟩
  obtain ⟨cr, hcr⟩ : ∃ c, Hid (c = limA r) := ⟨_, Lib.hid rfl⟩
  obtain ⟨cI, hcI⟩ : ∃ c, Hid (c = limA (r * I4 % P)) := ⟨_, Lib.hid rfl⟩
  obtain ⟨c1, hc1⟩ : ∃ c, Hid (c = limA (root1 n)) := ⟨_, Lib.hid rfl⟩
  obtain ⟨cN, hcN⟩ : ∃ c, Hid (c = limA ((0 + P - root1 n) % P)) := ⟨_, Lib.hid rfl⟩
  rw [← hx.out] at C1 C4 C7 o0 h2 ⊢
  rw [← hcr.out] at C2 C3 C5 or hsz
  rw [← hcI.out] at C5 oI hsz
  rw [← hc1.out] at C6 C8 C9 o1 hsz
  rw [← hcN.out] at C9 oN hsz
  obtain ⟨cR, hcR⟩ : ∃ c, Hid (c = limA (root n)) := ⟨_, Lib.hid rfl⟩
  have HRl := Lib.hid hrl
  have HR1l := Lib.hid hr1l
  clear hP hn hT hroot1 hrl hr1l
  go_enter Tryd.func58, Tryd.ntmps58
  go_upto_region 1 with fail
  generalize (w.alloc (.cells x 28)).alloc (.cells #[.int .u64 0, .int .u64 0, .int .u64 0, .int .u64 0] 28) = W at *
  have H2 := Lib.hid h2
  clear h2
  go_upto_region 2 with (first | (refine wpList_load_row rfl 28 (.tmp 1) rfl w.heap.size rfl 28 x (0, 0) _ H2.out.1 Tryd.underlying28 rfl o0.out.1 ?_))
  refine (C1.out _ (HP.out.old H2.out.2.2)).mono ?_
  rintro e w1 ⟨rfl, hb⟩
  have H21 := Lib.hid (H2.out.next hb)
  clear hb
  go_upto_region 2 with fail
  refine (C2.out _ (HP.out.old H21.out.2.2)).mono ?_
  rintro e w1 ⟨rfl, hb⟩
  have H22 := Lib.hid (H21.out.next hb)
  clear hb
  go_upto_region 2 with (first | (refine wpList_store_row rfl 28 (.tmp 4) (.tmp 7) rfl w1.heap.size cr rfl rfl 28 _ (heap_alloc_new w1 _) or.out.1 or.out.2.2 or.out.2.1 ?_; rw [setRow_alloc1]))
  have h3 : Three2 w x #[.int .u64 0, .int .u64 0, .int .u64 0, .int .u64 0] cr w1.heap.size (w1.alloc (.cells cr 28)) := ⟨H22.out.next ((Below.refl _ _).alloc (Nat.le_refl _) _), Blk.new _ _ _, H22.out.lt⟩
  generalize w1.alloc (.cells cr 28) = W1 at *
  generalize w1.heap.size = g4 at *
  have H3 := Lib.hid h3
  clear h3
  (try simp only [Act.put, List.setIfInBounds_toArray, List.set_cons_zero, List.set_cons_succ])
  refine wp_region_held_drew (S := fun V => Below W1.heap.size W1 V) (by kernel_rfl) ((Below.refl _ _).drew) (fun hHeld => ?_)
  have HBW1 := Lib.hid ((Below.refl W1.heap.size W1).drew)
  generalize W1.drew = VW1 at *
  refine' wpAnyH_take (i := 0) (oi := _) (v := .agg cr) ?hit17 ?hst17 ?hft17 ?hrt17 ?hQt17 ?hyt17 ?hSt17 ?_
  case hit17 => (simp only [List.getElem?_toArray, List.getElem?_cons_succ, List.getElem?_cons_zero]; rfl)
  case hst17 => kernel_rfl
  case hft17 => kernel_rfl
  case hrt17 => kernel_rfl
  case hQt17 => exact fun _ _ _ h => h
  case hSt17 => assumption
  case hyt17 =>
    refine Or.inl ⟨by rfl, ?_⟩
    intro W hS
    exact quiet_load_row 28 (.tmp 4) _ rfl 28 cr _ (H3.out.2.1.old hS) Tryd.underlying28 rfl or.out.1 rfl
  (try simp only [Act.put, List.setIfInBounds_toArray, List.set_cons_zero, List.set_cons_succ])
  refine' wpAnyH_take (i := 2) (oi := _) (v := .agg x) ?hit18 ?hst18 ?hft18 ?hrt18 ?hQt18 ?hyt18 ?hSt18 ?_
  case hit18 => (simp only [List.getElem?_toArray, List.getElem?_cons_succ, List.getElem?_cons_zero]; rfl)
  case hst18 => kernel_rfl
  case hft18 => kernel_rfl
  case hrt18 => kernel_rfl
  case hQt18 => exact fun _ _ _ h => h
  case hSt18 => assumption
  case hyt18 =>
    refine Or.inl ⟨by rfl, ?_⟩
    intro W hS
    exact quiet_load_row 28 (.tmp 1) _ rfl 28 x _ (H3.out.1.1.old hS) Tryd.underlying28 rfl o0.out.1 rfl
  (try simp only [Act.put, List.setIfInBounds_toArray, List.set_cons_zero, List.set_cons_succ])
  refine wpAnyH_ready (rs := [1]) (by kernel_rfl) (by simp) ?_
  refine' (AllReadyH.cons (o := _) ?hir19_1 (fun K hK => ?br19_1) AllReadyH.nil)
  case hir19_1 => (simp only [List.getElem?_toArray, List.getElem?_cons_succ, List.getElem?_cons_zero]; rfl)
  case br19_1 =>
    go_simp
    refine (C3.out _ (HP.out.old (H3.out.1.2.2.trans (HBW1.out.mono H3.out.1.2.2.size)))).mono ?_
    rintro e w20 ⟨rfl, hb20⟩
    have H20 := Lib.hid (HBW1.out.trans (hb20.mono HBW1.out.size))
    clear hb20
    go_wp2_with fail
    refine hK.out _ _ ?_ (fun hHeld => ?_)
    exact H20.out
    clear hK K
    (try simp only [Act.put, List.setIfInBounds_toArray, List.set_cons_zero, List.set_cons_succ])
    refine wpAnyH_ready (rs := [3]) (by kernel_rfl) (by simp) ?_
    refine' (AllReadyH.cons (o := _) ?hir21_3 (fun K hK => ?br21_3) AllReadyH.nil)
    case hir21_3 => (simp only [List.getElem?_toArray, List.getElem?_cons_succ, List.getElem?_cons_zero]; rfl)
    case br21_3 =>
      go_simp
      refine (C4.out _).mono ?_
      rintro e w22 ⟨rfl, hb22⟩
      have H22 := Lib.hid (H20.out.trans (hb22.mono H20.out.size))
      clear hb22
      go_wp2_with fail
      refine hK.out _ _ ?_ (fun hHeld => ?_)
      exact H22.out
      clear hK K
      (try simp only [Act.put, List.setIfInBounds_toArray, List.set_cons_zero, List.set_cons_succ])
      refine' wpAnyH_take (i := 4) (oi := _) (v := _) ?hit23 ?hst23 ?hft23 ?hrt23 ?hQt23 ?hyt23 ?hSt23 ?_
      case hit23 => (simp only [List.getElem?_toArray, List.getElem?_cons_succ, List.getElem?_cons_zero]; rfl)
      case hst23 => kernel_rfl
      case hft23 => kernel_rfl
      case hrt23 => kernel_rfl
      case hQt23 => exact fun _ _ _ h => h
      case hSt23 => assumption
      case hyt23 =>
        refine Or.inl ⟨by rfl, ?_⟩
        intro w hSw
        (try dsimp only at hSw)
        go_simp
        all_goals (with_reducible rfl)
      (try simp only [Act.put, List.setIfInBounds_toArray, List.set_cons_zero, List.set_cons_succ])
      refine wpAnyH_done (by kernel_rfl) ?_ _
      have H4 := Lib.hid (H3.out.next H22.out)
      have HT4 := Lib.hid (HT2.out _ (HT.out.old H4.out.1.2.2))
      have HP4 := Lib.hid (HP.out.old H4.out.1.2.2)
      clear hHeld
      go_upto_if 12 with fail
      (try simp only [Act.put, List.setIfInBounds_toArray, List.set_cons_zero, List.set_cons_succ])
      go_cut [] (fun wx => Three2 w x #[.int .u64 0, .int .u64 0, .int .u64 0, .int .u64 0] c1 g4 wx)
      case first =>
        cases hb1v : b1
        · have e1 : Hid (cI = c1) := by
            rw [hcI.out, hc1.out, HR1.out, if_neg (by have := hb1.out; rw [hb1v] at this; simpa using this.symm)]; exact Lib.hid rfl
          clear hb1v
          go_wp2_with (first | (refine wpList_load_row rfl 28 (.tmp 4) rfl g4 rfl 28 cr (0, 0) _ H4.out.2.1 Tryd.underlying28 rfl or.out.1 ?_) |
            (refine wpList_load_at rfl 26 (.global 2) rfl 2 0 rfl 24 4 ct Tryd.underlying26 hti.out HT4.out ?_) |
            (refine wpList_build_to rfl 28 #[(0, .tmp 14)] rfl [(0, .agg ct)] (by simp [Act.eval, Act.put]) ct hbt.out ?_))
          refine (C5.out _ HP4.out).mono ?_
          rintro e w5 ⟨rfl, hb⟩
          have H5 := Lib.hid (H4.out.next hb)
          have H6 := Lib.hid (H5.out.third cI)
          clear hb
          go_wp2_with (first | (refine wpList_store_row rfl 28 (.tmp 4) (.tmp 16) rfl g4 cI rfl rfl 28 cr H5.out.2.1 oI.out.1 hsz.out.1 oI.out.2.1 ?_))
          go_meet
          exact (by rw [← e1.out]; exact H6.out)
        · have e1 : Hid (cr = c1) := by
            rw [hcr.out, hc1.out, HR1.out, if_pos (by have := hb1.out; rw [hb1v] at this; simpa using this.symm)]; exact Lib.hid rfl
          clear hb1v
          go_wp2_with fail
          go_meet
          exact (by rw [← e1.out]; exact H4.out)
      case rest =>
        have H7 := Lib.hid hcut
        clear hcut
        go_upto_region 4 with fail
        generalize wc = W4 at *
        (try simp only [Act.put, List.setIfInBounds_toArray, List.set_cons_zero, List.set_cons_succ])
        refine wp_region_held_drew (S := fun V => Below W4.heap.size W4 V) (by kernel_rfl) ((Below.refl _ _).drew) (fun hHeld => ?_)
        have HBW4 := Lib.hid ((Below.refl W4.heap.size W4).drew)
        generalize W4.drew = VW4 at *
        refine' wpAnyH_take (i := 0) (oi := _) (v := .agg c1) ?hit24 ?hst24 ?hft24 ?hrt24 ?hQt24 ?hyt24 ?hSt24 ?_
        case hit24 => (simp only [List.getElem?_toArray, List.getElem?_cons_succ, List.getElem?_cons_zero]; rfl)
        case hst24 => kernel_rfl
        case hft24 => kernel_rfl
        case hrt24 => kernel_rfl
        case hQt24 => exact fun _ _ _ h => h
        case hSt24 => assumption
        case hyt24 =>
          refine Or.inl ⟨by rfl, ?_⟩
          intro W hS
          exact quiet_load_row 28 (.tmp 4) _ rfl 28 c1 _ (H7.out.2.1.old hS) Tryd.underlying28 rfl o1.out.1 rfl
        (try simp only [Act.put, List.setIfInBounds_toArray, List.set_cons_zero, List.set_cons_succ])
        refine' wpAnyH_take (i := 2) (oi := _) (v := .agg x) ?hit25 ?hst25 ?hft25 ?hrt25 ?hQt25 ?hyt25 ?hSt25 ?_
        case hit25 => (simp only [List.getElem?_toArray, List.getElem?_cons_succ, List.getElem?_cons_zero]; rfl)
        case hst25 => kernel_rfl
        case hft25 => kernel_rfl
        case hrt25 => kernel_rfl
        case hQt25 => exact fun _ _ _ h => h
        case hSt25 => assumption
        case hyt25 =>
          refine Or.inl ⟨by rfl, ?_⟩
          intro W hS
          exact quiet_load_row 28 (.tmp 1) _ rfl 28 x _ (H7.out.1.1.old hS) Tryd.underlying28 rfl o0.out.1 rfl
        (try simp only [Act.put, List.setIfInBounds_toArray, List.set_cons_zero, List.set_cons_succ])
        refine wpAnyH_ready (rs := [1]) (by kernel_rfl) (by simp) ?_
        refine' (AllReadyH.cons (o := _) ?hir26_1 (fun K hK => ?br26_1) AllReadyH.nil)
        case hir26_1 => (simp only [List.getElem?_toArray, List.getElem?_cons_succ, List.getElem?_cons_zero]; rfl)
        case br26_1 =>
          go_simp
          refine (C6.out _ (HP.out.old (H7.out.1.2.2.trans (HBW4.out.mono H7.out.1.2.2.size)))).mono ?_
          rintro e w27 ⟨rfl, hb27⟩
          have H27 := Lib.hid (HBW4.out.trans (hb27.mono HBW4.out.size))
          clear hb27
          go_wp2_with fail
          refine hK.out _ _ ?_ (fun hHeld => ?_)
          exact H27.out
          clear hK K
          (try simp only [Act.put, List.setIfInBounds_toArray, List.set_cons_zero, List.set_cons_succ])
          refine wpAnyH_ready (rs := [3]) (by kernel_rfl) (by simp) ?_
          refine' (AllReadyH.cons (o := _) ?hir28_3 (fun K hK => ?br28_3) AllReadyH.nil)
          case hir28_3 => (simp only [List.getElem?_toArray, List.getElem?_cons_succ, List.getElem?_cons_zero]; rfl)
          case br28_3 =>
            go_simp
            refine (C7.out _).mono ?_
            rintro e w29 ⟨rfl, hb29⟩
            have H29 := Lib.hid (H27.out.trans (hb29.mono H27.out.size))
            clear hb29
            go_wp2_with fail
            refine hK.out _ _ ?_ (fun hHeld => ?_)
            exact H29.out
            clear hK K
            (try simp only [Act.put, List.setIfInBounds_toArray, List.set_cons_zero, List.set_cons_succ])
            refine' wpAnyH_take (i := 4) (oi := _) (v := _) ?hit30 ?hst30 ?hft30 ?hrt30 ?hQt30 ?hyt30 ?hSt30 ?_
            case hit30 => (simp only [List.getElem?_toArray, List.getElem?_cons_succ, List.getElem?_cons_zero]; rfl)
            case hst30 => kernel_rfl
            case hft30 => kernel_rfl
            case hrt30 => kernel_rfl
            case hQt30 => exact fun _ _ _ h => h
            case hSt30 => assumption
            case hyt30 =>
              refine Or.inl ⟨by rfl, ?_⟩
              intro w hSw
              (try dsimp only at hSw)
              go_simp
              all_goals (with_reducible rfl)
            (try simp only [Act.put, List.setIfInBounds_toArray, List.set_cons_zero, List.set_cons_succ])
            refine wpAnyH_done (by kernel_rfl) ?_ _
            have H8 := Lib.hid (H7.out.next H29.out)
            have HP8 := Lib.hid (HP.out.old H8.out.1.2.2)
            clear hHeld
            cases hb2v : b2
            · have hno : ¬ hasRoot n := by rw [hhas.out]; have := hb2.out; rw [hb2v] at this; simpa using this.symm
              have hr0 : Hid (root n = 0) := by rw [hroot.out, if_neg hno]; exact Lib.hid rfl
              have hd : Hid (decide (hasRoot n) = false) := Lib.hid (by simpa using hno)
              have hz := Lib.hid (limA_ok 0)
              rw [show limA 0 = #[.int .u64 0, .int .u64 0, .int .u64 0, .int .u64 0] from rfl] at hz
              clear hno hb2v
              go_wp2_with (first | (refine wpList_store_row rfl 28 (.tmp 2) (.tmp 22) rfl (w.heap.size + 1) #[.int .u64 0, .int .u64 0, .int .u64 0, .int .u64 0] rfl rfl 28 _ H8.out.1.2.1 hz.out.1 hz.out.2.2 hz.out.2.1 ?_; rw [setRow_self H8.out.1.2.1]))
              refine bodyPost_ret (v := .tuple #[.agg #[.int .u64 0, .int .u64 0, .int .u64 0, .int .u64 0], .bool false]) ?_ rfl ⟨by rw [hr0.out, hd.out]; rfl, H8.out.1.2.2⟩
              exact results_row_tmp1 Tryd.results58 _ _ (w.heap.size + 1) 28 _ _ _ rfl rfl H8.out.1.2.1 Tryd.underlying28 hz.out.1
            have hyes : hasRoot n := by rw [hhas.out]; have := hb2.out; rw [hb2v] at this; simpa using this.symm
            have hd : Hid (decide (hasRoot n) = true) := Lib.hid (by simpa using hyes)
            have hrr : root n = if root1 n % 2 = 1 then P - root1 n else root1 n := by rw [hroot.out, if_pos hyes]
            have HRR := Lib.hid hrr
            clear hyes hb2v hrr
            go_upto_if 24 with (first | (refine wpList_load_row rfl 28 (.tmp 4) rfl g4 rfl 28 c1 (0, 0) _ H8.out.2.1 Tryd.underlying28 rfl o1.out.1 ?_))
            refine (C8.out _).mono ?_
            rintro e w9 ⟨rfl, hb⟩
            have H9 := Lib.hid (H8.out.next hb)
            have HP9 := Lib.hid (HP.out.old H9.out.1.2.2)
            clear hb
            go_upto_if 24 with fail
            (try simp only [Act.put, List.setIfInBounds_toArray, List.set_cons_zero, List.set_cons_succ])
            go_cut [] (fun wx => Three2 w x #[.int .u64 0, .int .u64 0, .int .u64 0, .int .u64 0] cR g4 wx)
            case first =>
              cases hb3v : b3
              · have e1 : Hid (c1 = cR) := by
                  rw [hc1.out, hcR.out, HRR.out, if_neg (by have := hb3.out; rw [hb3v] at this; simpa using this.symm)]; exact Lib.hid rfl
                clear hb3v
                go_wp2_with fail
                go_meet
                exact (by rw [← e1.out]; exact H9.out)
              · have e1 : Hid (cN = cR) := by
                  have ho : root1 n % 2 = 1 := by have := hb3.out; rw [hb3v] at this; simpa using this.symm
                  rw [hcN.out, hcR.out, HRR.out, if_pos ho, odd_neg HR1l.out ho]; exact Lib.hid rfl
                clear hb3v
                go_wp2_with (first | (refine wpList_load_row rfl 28 (.tmp 4) rfl g4 rfl 28 c1 (0, 0) _ H9.out.2.1 Tryd.underlying28 rfl o1.out.1 ?_))
                refine (C9.out _ HP9.out).mono ?_
                rintro e w5 ⟨rfl, hb⟩
                have H5 := Lib.hid (H9.out.next hb)
                have H6 := Lib.hid (H5.out.third cN)
                clear hb
                go_wp2_with (first | (refine wpList_store_row rfl 28 (.tmp 4) (.tmp 27) rfl g4 cN rfl rfl 28 c1 H5.out.2.1 oN.out.1 hsz.out.2 oN.out.2.1 ?_))
                go_meet
                exact (by rw [← e1.out]; exact H6.out)
            case rest =>
              have HC := Lib.hid hcut
              have oR : Hid ((Tryd.prog.info? 28).map (·.size) = some cR.size ∧ cR.all (·.oneCell') = true ∧ Array.size (#[.int .u64 0, .int .u64 0, .int .u64 0, .int .u64 0] : Array Value) = cR.size) := by rw [hcR.out]; exact Lib.hid (limA_ok _)
              have HF := Lib.hid (hcut.1.snd cR)
              clear hcut
              go_wp2_with (first | (refine wpList_load_row rfl 28 (.tmp 4) rfl g4 rfl 28 cR (0, 0) _ HC.out.2.1 Tryd.underlying28 rfl oR.out.1 ?_) |
                (refine wpList_store_row rfl 28 (.tmp 2) (.tmp 28) rfl (w.heap.size + 1) cR rfl rfl 28 _ HC.out.1.2.1 oR.out.1 oR.out.2.2 oR.out.2.1 ?_))
              refine bodyPost_ret (v := .tuple #[.agg cR, .bool true]) ?_ rfl ⟨by rw [hcR.out, hd.out], HF.out.2.2⟩
              exact results_row_tmp1 Tryd.results58 _ _ (w.heap.size + 1) 28 _ _ _ rfl rfl HF.out.2.1 Tryd.underlying28 oR.out.1
end Go.Proofs.YtjiadbaaggifpaaDoor
end

section
set_option linter.unusedVariables false
set_option linter.unusedSimpArgs false
namespace Go.Proofs.YtjiadbaaggifpaaDoor
open Go Go.Proofs Go.RowKit F5

theorem slice32 (g : Nat) (W : World) : (Instr.sliceAt 40 (.pointer (some ⟨g, 0, none⟩)) none none none).run Tryd.prog W = .ok (.slice (some ⟨g, 0, none⟩) 32 32) W := by
  have hal : Tryd.prog.arrayLen 40 = 32 := by kernel_rfl
  have hel : Tryd.prog.elem 40 = 5 := by kernel_rfl
  rw [run_sliceAt_array_all W 40 ⟨g, 0, none⟩ (by rw [hal, hel]; exact Tryd.underlying40), hal, hel, Tryd.sizeOf5]
  rfl
theorem reads_blk {w : World} {g t : Nat} {l : List UInt8} (h : Blk w g t (bytesA l)) : Reads w w.heap.size 1 (some ⟨g, 0, none⟩) l.length (Lib.byteCells l) := by
  refine ⟨by simp [Lib.byteCells_length], fun _ => ⟨_, rfl, h.lt, fun j u hj => ?_⟩⟩
  have e : (⟨g, 0, none⟩ : Addr).add j = ⟨g, j, none⟩ := by unfold Addr.add; split <;> simp_all
  rw [e, h.cell, bytesA, List.getElem?_toArray]
  exact hj
theorem quiet_back {o : Oper} {ev : Operand → Value} {w : World} (x : Operand) (A : Option Addr) (n c B : Nat) (l : List UInt8) (hx : ev x = .slice A n c) (hr : Reads w B 1 A n (Lib.byteCells l)) (ho : o.op = .convert 22 9 x) :
    (execOp ev o).run Tryd.prog w = .ok (.value (.string ⟨l.toArray⟩)) w := by
  unfold execOp
  simp only [ho, hx, Sem.run_bind, run_back hr, Result.andThen_ok, Sem.run_pure]
theorem wp_back {o : Oper} {a : Act} {w : World} {K : Act → World → Prop} {Q : Exit → Act → World → Prop} (x : Operand) (A : Option Addr) (n c B : Nat) (l : List UInt8) (hx : a.eval x = .slice A n c) (hr : Reads w B 1 A n (Lib.byteCells l)) (ho : o.op = .convert 22 9 x)
    (h : K (a.put o.dst (.string ⟨l.toArray⟩)) w) : o.wp Tryd.prog a w K Q := by
  unfold Oper.wp execOp
  simp only [ho, hx, Sem.run_bind, run_back hr, Result.andThen_ok, Sem.run_pure]
  exact h
theorem str_eq (l l' : List UInt8) : ((⟨l.toArray⟩ : ByteArray).toList == (⟨l'.toArray⟩ : ByteArray).toList) = decide (l = l') := by
  rw [Lib.toList_data, Lib.toList_data]
  rw [Bool.eq_iff_iff]
  simp
end Go.Proofs.YtjiadbaaggifpaaDoor
end

section
set_option linter.unusedVariables false
set_option linter.unusedSimpArgs false
namespace Go.Proofs.YtjiadbaaggifpaaDoor
open Go Go.Proofs Go.RowKit F5

theorem results_two_rows {fn : Func} {p1 p2 u : Tmp} {t1 t2 : TypeId} {P : Program} (h : fn.results = #[.cell p1 t1, .cell p2 t2, .tmp u]) (tmps : Array Value) (w : World) (g1 g2 : Nat) (c1 c2 : Array Value) (v : Value) (T1 T2 : TypeId) (l : Array Field) (e n : Nat)
    (hp1 : tmps.getD p1 undef = .pointer (some ⟨g1, 0, none⟩)) (hp2 : tmps.getD p2 undef = .pointer (some ⟨g2, 0, none⟩)) (hv : tmps.getD u undef = v) (hg1 : Blk w g1 T1 c1) (hg2 : Blk w g2 T2 c2)
    (hu1 : P.underlying t1 = some (.struct l)) (hu2 : P.underlying t2 = some (.array n e)) (hi1 : (P.info? t1).map (·.size) = some c1.size) (hi2 : (P.info? t2).map (·.size) = some c2.size) :
    (results fn tmps).run P w = .ok (.tuple #[.agg c1, .agg c2, v]) w := by
  have l1 := run_loadVar_row (P := P) w g1 T1 t1 c1 (0, 0) (.struct l) hg1 hu1 rfl hi1
  have l2 := run_loadVar_row (P := P) w g2 T2 t2 c2 (0, 0) (.array n e) hg2 hu2 rfl hi2
  have e : (results fn tmps).run P w = ((asAddr (tmps.getD p1 undef)).run P w).andThen fun a w₁ => ((loadVar t1 a).run P w₁).andThen fun v1 w₂ => ((asAddr (tmps.getD p2 undef)).run P w₂).andThen fun a2 w₃ => ((loadVar t2 a2).run P w₃).andThen fun v2 w₄ => .ok (.tuple #[v1, v2, tmps.getD u undef]) w₄ := by
    simp only [results, h]
    simp [Sem.run_bind, Result.andThen]
  rw [e, hp1, hp2, hv]
  simp [asAddr, Result.andThen, l1, l2]

theorem limF_ok (n : Nat) (z : Array Value) (hz : z = limF 0) : (Tryd.prog.info? 35).map (·.size) = some (limF n).size ∧ (limF n).all (·.oneCell') = true ∧ z.size = (limF n).size := ⟨limF_info _, limF_one _, by rw [hz, limF_size, limF_size]⟩
def uOf (v : Nat) : Nat := if v < P then v else 0
theorem uOf_lt (v : Nat) : uOf v < P := by unfold uOf; split; assumption; exact P_pos
end Go.Proofs.YtjiadbaaggifpaaDoor
end

section
set_option linter.unusedVariables false
set_option linter.unusedSimpArgs false
namespace F5
theorem bit_of (q i : Nat) : (q / B ^ (i / 16) % B) / 2 ^ (i % 16) % 2 = q / 2 ^ i % 2 := by
  have e1 : B ^ (i / 16) = 2 ^ (16 * (i / 16)) := by rw [show B = 2 ^ 16 from rfl, ← Nat.pow_mul]
  have e2 : 2 ^ i = 2 ^ (16 * (i / 16)) * 2 ^ (i % 16) := by rw [← Nat.pow_add, Nat.div_add_mod]
  rw [e1, e2, ← Nat.div_div_eq_div_mul]
  generalize q / 2 ^ (16 * (i / 16)) = x
  have hc : i % 16 < 16 := Nat.mod_lt _ (by decide)
  generalize i % 16 = c at hc
  have e3 : B = 2 ^ c * 2 ^ (16 - c) := by rw [← Nat.pow_add, show c + (16 - c) = 16 by omega]
  rw [e3, Nat.mod_mul, Nat.add_mul_div_left _ _ (Nat.two_pow_pos c), Nat.div_eq_of_lt (Nat.mod_lt _ (Nat.two_pow_pos c)), Nat.zero_add]
  exact Nat.mod_mod_of_dvd _ ⟨2 ^ (15 - c), by rw [← Nat.pow_succ', show (15 - c).succ = 16 - c by omega]⟩
theorem half_step (q i : Nat) : q / 2 ^ i = q / 2 ^ (i + 1) + q / 2 ^ (i + 1) + q / 2 ^ i % 2 := by
  rw [Nat.pow_succ, ← Nat.div_div_eq_div_mul]
  omega
theorem digs_less {less : Nat} (h : less ≤ 1000) : (digs B P 16).set 0 (65517 - less) = digs B (P - less) 16 := by
  have h0 : (digs B P 16).getD 0 0 = 65517 := by decide +kernel
  have hs := val_set B (digs B P 16) 0 (65517 - less) (by rw [digs_length]; omega)
  rw [h0, val16 (show P < 2 ^ 256 by decide), Nat.pow_zero] at hs
  refine digs_of ((digs_all (by decide) P 16).set (by unfold B; omega)) (by simp [digs_length]) ?_
  have : (65517 : Nat) ≤ P := by decide
  omega
end F5
namespace Go.Proofs.YtjiadbaaggifpaaDoor
open Go Go.Proofs Go.RowKit F5

/-- Four blocks: the number, the result, what the bits are taken of, and what has come of it. -/
def PowAt (w : World) (n : Nat) (z : Array Value) (q : Nat) (o : Array Value) (g : Nat) (wr : World) : Prop :=
  Two3 w (limF n) z (limF q) wr ∧ Blk wr g 35 o ∧ w.heap.size + 2 < g
theorem PowAt.next {w wr w' : World} {n q g : Nat} {z o : Array Value} (h : PowAt w n z q o g wr) (hb : Below wr.heap.size wr w') : PowAt w n z q o g w' := ⟨h.1.next hb, h.2.1.old hb, h.2.2⟩
theorem PowAt.row {w wr : World} {n q g : Nat} {z o : Array Value} (h : PowAt w n z q o g wr) (x : Array Value) : PowAt w n z q x g (wr.setRow g x) :=
  ⟨⟨h.1.1.rowFar (by have := h.2.2; omega) x, h.1.2.1.rowFar (by have := h.2.2; omega) x, h.1.2.2.1.rowFar (by have := h.2.2; omega) x, below_row h.1.2.2.2 (by have := h.2.2; omega) x⟩, h.2.1.row x, h.2.2⟩
theorem limF_ok3 (n : Nat) : (Tryd.prog.info? 35).map (·.size) = some (limF n).size ∧ (limF n).all (·.oneCell') = true := ⟨limF_info _, limF_one _⟩
theorem limF_sz (n m : Nat) : (limF n).size = (limF m).size := by rw [limF_size, limF_size]

set_option maxHeartbeats 16000000 in
set_option maxRecDepth 100000 in
theorem refPower_any (n less down : Nat) (hn : n < P) (hl : less ≤ 1000) (hd : down ≤ 255) (w : World) :
    Calls Tryd.prog 71 #[refV n, .int .u64 (less : Int), .int .i64 (down : Int)] w fun e w' => e = .returned (refV (pw n ((P - less) / 2 ^ down))) ∧ Below w.heap.size w w' := by
  have hal : Tryd.prog.arrayLen 35 = 16 := by kernel_rfl
  have hel : Tryd.prog.elem 35 = 24 := by kernel_rfl
  unfold refV
  have HN := Lib.hid hn
  have HL := Lib.hid hl
  have HD := Lib.hid hd
  obtain ⟨cn, hcn⟩ : ∃ c, Hid (c = limF n) := ⟨_, Lib.hid rfl⟩
  rw [← hcn.out]
  obtain ⟨z, hz⟩ : ∃ z, Hid (z = limF 0) := ⟨_, Lib.hid rfl⟩
  obtain ⟨q, hq⟩ := named (P - less)
  have hq256 : Hid (q / 2 ^ 256 = 0) := Lib.hid (by rw [hq.out]; exact Nat.div_eq_of_lt (Nat.lt_of_le_of_lt (Nat.sub_le _ _) (by decide)))
  obtain ⟨l0, hl0⟩ := named (65517 - less)
  have cl : IntKind.u64.wrap (65517 - (less : Int)) = (l0 : Int) := by rw [IntKind.wrap_u64, hl0.out]; omega
  have of1 := Lib.hid (fun W => refOf_any 1 (by decide) W)
  rw [← hq.out]
  clear hn hl hd
  go_enter Tryd.func71, Tryd.ntmps71
  go_upto_region 2 with fail
  rw [limFP, limFZ, ← hz.out]
  have h3 := Two3.new w cn z (limF P)
  generalize ((w.alloc (.cells cn 35)).alloc (.cells z 35)).alloc (.cells (limF P) 35) = W at *
  rw [hcn.out] at h3
  obtain ⟨zp, hzp⟩ : ∃ zp, Hid (zp = limF P) := ⟨_, Lib.hid rfl⟩
  rw [← hzp.out]
  have hc0 : W.cell? ⟨w.heap.size + 2, 0, none⟩ = some (.int .u64 65517) := by
    rw [h3.2.2.1.cell, limF, digsP]; rfl
  have hf0 := h3.2.2.1.frozen 0
  have h4 : Two3 w (limF n) z (limF q) (W.setCell ⟨w.heap.size + 2, 0, none⟩ (.int .u64 (l0 : Int))) := by
    refine ⟨h3.1.far (by show w.heap.size ≠ w.heap.size + 2; omega) _, h3.2.1.far (by show w.heap.size + 1 ≠ w.heap.size + 2; omega) _, ?_, h3.2.2.2.setCell (by show w.heap.size ≤ w.heap.size + 2; omega) _⟩
    have := h3.2.2.1.u64set 0 l0
    rw [hl0.out, digs_less HL.out, ← hq.out] at this
    rw [hl0.out]; exact this
  have H4 := Lib.hid h4
  clear h3 h4
  go_upto_region 3 with fail
  generalize W.setCell ⟨w.heap.size + 2, 0, none⟩ (.int .u64 (l0 : Int)) = W1 at *
  clear hc0 hf0 cl
  go_upto_block 0 with fail
  refine (of1.out _).mono ?_
  rintro e w2 ⟨rfl, hbb⟩
  unfold refV
  have H5 := Lib.hid (H4.out.next hbb)
  clear hbb
  have hsz0 : Hid ((limF 0).size = (limF 1).size) := Lib.hid (limF_sz _ _)
  rw [← hz.out] at hsz0
  go_wp2_with (first | (refine wpList_store_row rfl 35 (.tmp 8) (.tmp 18) rfl w2.heap.size (limF 1) rfl rfl 35 (limF 0) (heap_alloc_new w2 _) (limF_info 1) (limF_sz 0 1) (limF_one 1) ?_; rw [setRow_alloc1]))
  have hp1 : PowAt w n z q (limF 1) w2.heap.size (w2.alloc (.cells (limF 1) 35)) := ⟨H5.out.next ((Below.refl _ _).alloc (Nat.le_refl _) _), Blk.new _ _ _, H5.out.2.2.1.lt⟩
  generalize w2.alloc (.cells (limF 1) 35) = W2 at *
  generalize w2.heap.size = g at *
  have HP1 := Lib.hid hp1
  clear hp1
  (try simp only [Act.put, List.setIfInBounds_toArray, List.set_cons_zero, List.set_cons_succ])
  go_loopg [9] (256 - down) (fun gg iv wr => ∃ j : Nat, iv = .int .i64 ((j : Int) - 1) ∧ gg + down = j ∧ j ≤ 256 ∧ PowAt w n z q (limF (pw n (q / 2 ^ j))) g wr)
  case atStart => exact ⟨256, rfl, by have := HD.out; omega, by omega, by rw [hq256.out, pw_zero]; exact HP1.out⟩
  case round =>
    obtain ⟨j, hiv, hg, hj, hT⟩ := hrel
    clear HP1
    by_cases hlt : down < j
    · obtain ⟨i, rfl⟩ : ∃ i, j = i + 1 := ⟨j - 1, by omega⟩
      rw [show ((i + 1 : Nat) : Int) - 1 = (i : Int) by omega] at hiv
      subst hiv
      obtain ⟨G, hG⟩ : ∃ G, Hid (gk = G + 1 ∧ G + down = i) := ⟨gk - 1, Lib.hid ⟨by omega, by omega⟩⟩
      obtain ⟨e1, he1⟩ := named (q / 2 ^ (i + 1))
      rw [← he1.out] at hT
      have CM : Hid (∀ V, Calls Tryd.prog 49 #[.agg (limF (pw n e1)), .agg (limF (pw n e1))] V fun e w' => e = .returned (.agg (limF (pw n (e1 + e1)))) ∧ Below V.heap.size V w') := Lib.hid fun V => by
        have := refMul_any (pw n e1) (pw n e1) (Nat.lt_trans (pw_lt _ _) (by decide)) (Nat.lt_trans (pw_lt _ _) (by decide)) V
        unfold refV at this
        rwa [pw_add] at this
      have CM2 : Hid (∀ V, Calls Tryd.prog 49 #[.agg (limF (pw n (e1 + e1))), .agg cn] V fun e w' => e = .returned (.agg (limF (pw n (e1 + e1 + 1)))) ∧ Below V.heap.size V w') := Lib.hid fun V => by
        have := refMul_any (pw n (e1 + e1)) n (Nat.lt_trans (pw_lt _ _) (by decide)) (Nat.lt_trans HN.out (by decide)) V
        unfold refV at this
        rw [pw_next HN.out] at this
        rw [hcn.out]; exact this
      have hhalf := half_step q i
      rw [← he1.out] at hhalf
      have hcb0 : Hid (q / 2 ^ i % 2 = 0 → limF (pw n (e1 + e1)) = limF (pw n (q / 2 ^ i))) := Lib.hid fun h => by rw [hhalf, h, Nat.add_zero]
      have hcd0 : Hid (q / 2 ^ i % 2 = 1 → limF (pw n (e1 + e1 + 1)) = limF (pw n (q / 2 ^ i))) := Lib.hid fun h => by rw [hhalf, h]
      have oka := Lib.hid (limF_ok3 (pw n e1))
      have okb := Lib.hid (limF_ok3 (pw n (e1 + e1)))
      have okd := Lib.hid (limF_ok3 (pw n (e1 + e1 + 1)))
      have okn : Hid ((Tryd.prog.info? 35).map (·.size) = some cn.size) := by rw [hcn.out]; exact Lib.hid (limF_info n)
      have szab := Lib.hid (limF_sz (pw n e1) (pw n (e1 + e1)))
      have szbd := Lib.hid (limF_sz (pw n (e1 + e1)) (pw n (e1 + e1 + 1)))
      clear hhalf
      generalize limF (pw n e1) = ca at *
      generalize limF (pw n (e1 + e1)) = cb at *
      generalize limF (pw n (e1 + e1 + 1)) = cd at *
      have HT := Lib.hid hT
      clear hT
      have hil : i < 256 := by omega
      have hdi : (down : Int) ≤ (i : Int) := by omega
      obtain ⟨d, hd⟩ := named (i / 16)
      obtain ⟨r, hr⟩ := named (i % 16)
      have hd16 : d < 16 := by rw [hd.out]; omega
      have d1 : (i : Int) / 16 = (d : Int) := by rw [hd.out]; omega
      have d2 : (i : Int).tdiv 16 = (d : Int) := by rw [Int.tdiv_eq_ediv_of_nonneg (by omega)]; omega
      have d3 : (i : Int) % 16 = (r : Int) := by rw [hr.out]; omega
      have d4 : (i : Int).tmod 16 = (r : Int) := by rw [Int.tmod_eq_emod_of_nonneg (by omega)]; omega
      have dw : IntKind.i64.wrap (d : Int) = (d : Int) := IntWalk.i64_in _ (by omega)
      have iw : IntKind.i64.wrap ((i : Int) - 1) = (i : Int) - 1 := IntWalk.i64_in _ (by omega)
      have HG2 := Lib.hid (show i + 1 ≤ 256 from hj)
      clear hj hg hlt
      go_wp2_with (first | (refine wpList_load_row rfl 35 (.tmp 8) rfl g rfl 35 ca (0, 0) _ HT.out.2.1 Tryd.underlying35 rfl oka.out.1 ?_))
      refine (CM.out _).mono ?_
      rintro e w3 ⟨rfl, hb1⟩
      have HT1 := Lib.hid (HT.out.next hb1)
      clear hb1
      have ht2 := HT1.out.row cb
      go_upto_region 8 with (first | (refine wpList_store_row rfl 35 (.tmp 8) (.tmp 26) rfl g cb rfl rfl 35 ca HT1.out.2.1 okb.out.1 szab.out okb.out.2 ?_))
      generalize w3.setRow g cb = W3 at *
      have hx : W3.cell? ⟨w.heap.size + 2, d, none⟩ = some (.int .u64 (((digs B q 16).getD d 0 : Nat) : Int)) := ht2.1.2.2.1.u64 d (by rw [digs_length]; exact hd16)
      rw [digs_at hd16] at hx
      obtain ⟨x, hxx⟩ := named (q / B ^ d % B)
      rw [← hxx.out] at hx
      have hxB : x < 65536 := by rw [hxx.out]; exact Nat.mod_lt _ (by decide)
      have HB3 : Hid (x / 2 ^ r % 2 = q / 2 ^ i % 2) := Lib.hid (by rw [hxx.out, hr.out, hd.out]; exact bit_of q i)
      have HT2 := Lib.hid ht2
      clear ht2 HT1
      go_wp2_with fail
      clear hx
      (try simp only [Act.put, List.setIfInBounds_toArray, List.set_cons_zero, List.set_cons_succ])
      go_loopg [10, 11] r (fun gg bv kv w1 => ∃ k y : Nat, bv = .int .u64 (y : Int) ∧ kv = .int .i64 (k : Int) ∧ gg + k = r ∧ y = x / 2 ^ k ∧ PowAt w n z q cb g w1)
      case atStart => exact ⟨0, x, rfl, rfl, rfl, by simp, HT2.out⟩
      case round =>
        obtain ⟨k, y, rfl, rfl, hgk, hy, hT1⟩ := hrel
        clear HT2
        have HT1 := Lib.hid hT1
        have HY := Lib.hid hy
        clear hT1
        have hyl : y < 65536 := by rw [hy]; exact Nat.lt_of_le_of_lt (Nat.div_le_self _ _) hxB
        clear hy
        by_cases hk : k < r
        · obtain ⟨y2, hy2⟩ := named (y / 2)
          have e1' : (y : Int) / 2 = (y2 : Int) := by rw [hy2.out]; omega
          have e2' : (y : Int).tdiv 2 = (y2 : Int) := by rw [Int.tdiv_eq_ediv_of_nonneg (by omega)]; omega
          have e3' : IntKind.u64.wrap (y2 : Int) = (y2 : Int) := by rw [IntKind.wrap_u64, hy2.out]; omega
          go_wp2
          go_roundg (gk - 1)
          case measure => omega
          case rel => exact ⟨k + 1, y2, rfl, by go_num, by omega, by rw [hy2.out, HY.out, Nat.pow_succ, Nat.div_div_eq_div_mul], HT1.out⟩
        · obtain rfl : k = r := by omega
          obtain ⟨b, hb⟩ := named (y % 2)
          have e1' : (y : Int) % 2 = (b : Int) := by rw [hb.out]; omega
          have e2' : (y : Int).tmod 2 = (b : Int) := by rw [Int.tmod_eq_emod_of_nonneg (by omega)]; omega
          have e3' : IntKind.u64.wrap (b : Int) = (b : Int) := by rw [IntKind.wrap_u64, hb.out]; omega
          have hbit : Hid (q / 2 ^ i % 2 = b) := Lib.hid (by rw [hb.out, HY.out, HB3.out])
          have hb01 : b = 0 ∨ b = 1 := by rw [hb.out]; omega
          clear HB3
          rcases hb01 with hb0 | hb0
          · have E := Lib.hid (hcb0.out (by rw [hbit.out]; exact hb0))
            clear hbit hb
            subst hb0
            go_wp2_with fail
            go_roundg G
            case measure => have := hG.out; omega
            case rel => exact ⟨i, rfl, hG.out.2, by omega, by rw [← E.out]; exact HT1.out⟩
          · have E := Lib.hid (hcd0.out (by rw [hbit.out]; exact hb0))
            clear hbit hb
            subst hb0
            have hnb : Hid (Blk wr w.heap.size 35 cn) := by rw [hcn.out]; exact Lib.hid HT1.out.1.1
            go_wp2_with (first | (refine wpList_load_row rfl 35 (.tmp 8) rfl g rfl 35 cb (0, 0) _ HT1.out.2.1 Tryd.underlying35 rfl okb.out.1 ?_) |
              (refine wpList_load_row rfl 35 (.tmp 3) rfl w.heap.size rfl 35 cn (0, 0) _ hnb.out Tryd.underlying35 rfl okn.out ?_))
            refine (CM2.out _).mono ?_
            rintro e w4 ⟨rfl, hb1⟩
            have HT3 := Lib.hid (HT1.out.next hb1)
            clear hb1
            have HT4 := Lib.hid (HT3.out.row cd)
            go_wp2_with (first | (refine wpList_store_row rfl 35 (.tmp 8) (.tmp 44) rfl g cd rfl rfl 35 cb HT3.out.2.1 okd.out.1 szbd.out okd.out.2 ?_))
            go_roundg G
            case measure => have := hG.out; omega
            case rel => exact ⟨i, rfl, hG.out.2, by omega, by rw [← E.out]; exact HT4.out⟩
    · obtain rfl : down = j := by omega
      obtain ⟨m, hm⟩ : ∃ m : Int, Hid (m = (down : Int) - 1) := ⟨_, Lib.hid rfl⟩
      rw [← hm.out] at hiv
      have hml : m < (down : Int) := by rw [hm.out]; omega
      subst hiv
      obtain ⟨R, hR⟩ : ∃ R, Hid (R = limF (pw n (q / 2 ^ down))) := ⟨_, Lib.hid rfl⟩
      have okR := Lib.hid (limF_ok3 (pw n (q / 2 ^ down)))
      have szR : Hid (z.size = (limF (pw n (q / 2 ^ down))).size) := Lib.hid (by rw [hz.out, limF_size, limF_size])
      rw [← hR.out] at hT okR szR
      have HT := Lib.hid hT
      clear hT hg hj hlt
      go_wp2_with (first | (refine wpList_load_row rfl 35 (.tmp 8) rfl g rfl 35 R (0, 0) _ HT.out.2.1 Tryd.underlying35 rfl okR.out.1 ?_) |
        (refine wpList_store_row rfl 35 (.tmp 6) (.tmp 45) rfl (w.heap.size + 1) R rfl rfl 35 z HT.out.1.2.1 okR.out.1 szR.out okR.out.2 ?_))
      refine bodyPost_ret (v := .agg R) ?_ rfl ⟨by rw [hR.out], below_row HT.out.1.2.2.2 (by omega) _⟩
      exact results_cell_row Tryd.results71 _ _ (w.heap.size + 1) 35 R (0, 0) _ rfl ((HT.out.1.2.1).row R) Tryd.underlying35 rfl okR.out.1
end Go.Proofs.YtjiadbaaggifpaaDoor
end

section
set_option linter.unusedVariables false
set_option linter.unusedSimpArgs false
namespace Go.Proofs.YtjiadbaaggifpaaDoor
open Go Go.Proofs Go.RowKit F5

def TwoF (w : World) (a b : Array Value) (wr : World) : Prop := Blk wr w.heap.size 35 a ∧ Blk wr (w.heap.size + 1) 35 b ∧ Below w.heap.size w wr
theorem TwoF.new (w : World) (a b : Array Value) : TwoF w a b ((w.alloc (.cells a 35)).alloc (.cells b 35)) := by
  refine ⟨(Blk.new w 35 a).alloc _, ?_, ((Below.refl _ _).alloc (Nat.le_refl _) _).alloc (by simp) _⟩
  have := Blk.new (w.alloc (.cells a 35)) 35 b
  rwa [show (w.alloc (.cells a 35)).heap.size = w.heap.size + 1 by simp] at this
theorem TwoF.next {w wr w' : World} {a b : Array Value} (h : TwoF w a b wr) (hb : Below wr.heap.size wr w') : TwoF w a b w' := ⟨h.1.old hb, h.2.1.old hb, h.2.2.trans (hb.mono h.2.2.size)⟩
theorem TwoF.snd {w wr : World} {a b : Array Value} (h : TwoF w a b wr) (c : Array Value) : TwoF w a c (wr.setRow (w.heap.size + 1) c) := ⟨h.1.rowFar (by omega) c, h.2.1.row c, below_row h.2.2 (by omega) c⟩
theorem TwoF.far {w wr : World} {a b : Array Value} (h : TwoF w a b wr) {g : Nat} (hg : w.heap.size + 1 < g) (c : Array Value) : TwoF w a b (wr.setRow g c) := ⟨h.1.rowFar (by omega) c, h.2.1.rowFar (by omega) c, below_row h.2.2 (by omega) c⟩
theorem TwoF.lt {w wr : World} {a b : Array Value} (h : TwoF w a b wr) : w.heap.size + 1 < wr.heap.size := h.2.1.lt
def ThreeF (w : World) (a b c : Array Value) (g : Nat) (wr : World) : Prop := TwoF w a b wr ∧ Blk wr g 35 c ∧ w.heap.size + 1 < g
theorem ThreeF.next {w wr w' : World} {a b c : Array Value} {g : Nat} (h : ThreeF w a b c g wr) (hb : Below wr.heap.size wr w') : ThreeF w a b c g w' := ⟨h.1.next hb, h.2.1.old hb, h.2.2⟩
theorem ThreeF.third {w wr : World} {a b c : Array Value} {g : Nat} (h : ThreeF w a b c g wr) (d : Array Value) : ThreeF w a b d g (wr.setRow g d) := ⟨h.1.far h.2.2 d, h.2.1.row d, h.2.2⟩
theorem quiet_neq_F {o : Oper} {ev : Operand → Value} (w : World) (x y : Operand) (k : TypeId) (l l' : List Nat) (hl : l.length = 16) (hl' : l'.length = 16) (hx : ev x = .agg (u64s l)) (hy : ev y = .agg (u64s l'))
    (ho : o.op = .binOp .neq 35 x y k) : (execOp ev o).run Tryd.prog w = .ok (.value (.bool (!decide (l = l')))) w := by
  have hg : (eqGuard .neq 35 x y (.agg (u64s l)) (.agg (u64s l'))).run Tryd.prog w = .ok () w := run_eqGuard_agg w .neq _ x y _ _ (by kernel_rfl)
  unfold execOp
  simp only [ho, hx, hy, Sem.run_bind, hg, Result.andThen_ok, run_neq_u64s (i := default) Tryd.underlying35 l l' hl hl' w, Sem.run_pure]
theorem limF0_ok (n : Nat) : (Tryd.prog.info? 35).map (·.size) = some (limF n).size ∧ (limF n).all (·.oneCell') = true ∧ Array.size (limF 0) = (limF n).size := ⟨limF_info _, limF_one _, by rw [limF_size, limF_size]⟩
theorem refPower_of (n less down e : Nat) (li di : Int) (hli : li = (less : Int)) (hdi : di = (down : Int)) (hn : n < P) (hl : less ≤ 1000) (hd : down ≤ 255) (he : (P - less) / 2 ^ down = e) (w : World) :
    Calls Tryd.prog 71 #[.agg (limF n), .int .u64 li, .int .i64 di] w fun e' w' => e' = .returned (.agg (limF (pw n e))) ∧ Below w.heap.size w w' := by
  subst hli hdi he
  exact refPower_any n less down hn hl hd w
theorem refMul_of (n m r : Nat) (hn : n < P) (hm : m < P) (hr : n * m % P = r) (w : World) :
    Calls Tryd.prog 49 #[.agg (limF n), .agg (limF m)] w fun e w' => e = .returned (.agg (limF r)) ∧ Below w.heap.size w w' := by
  subst hr
  exact refMul_any n m (Nat.lt_trans hn (by decide)) (Nat.lt_trans hm (by decide)) w
theorem root_exp2 : (P - 5) / 2 ^ 3 + 1 = E8 := by decide +kernel
theorem I4_exp : (P - 1) / 2 ^ 2 = (P - 1) / 4 := rfl
theorem odd_neg2 {r : Nat} (h : r < P) (ho : r % 2 = 1) : (P - r) % P = P - r := Nat.mod_eq_of_lt (by have := P_pos; omega)

set_option maxHeartbeats 4000000 in
set_option maxRecDepth 100000 in
theorem refInv_any (n : Nat) (w : World) (hn : n < P) :
    Calls Tryd.prog 50 #[refV n] w fun e w' => e = .returned (refV (pw n (P - 2))) ∧ Below w.heap.size w w' := by
  unfold refV
  have C1 : Hid (∀ V, Calls Tryd.prog 71 #[.agg (limF n), .int .u64 2, .int .i64 0] V fun e w' => e = .returned (.agg (limF (pw n (P - 2)))) ∧ Below V.heap.size V w') := Lib.hid fun V =>
    refPower_of n 2 0 (P - 2) 2 0 rfl rfl hn (by omega) (by omega) (by rw [Nat.pow_zero, Nat.div_one]) V
  obtain ⟨z, hz⟩ : ∃ z, Hid (z = limF 0) := ⟨_, Lib.hid rfl⟩
  have hz0 : ∀ W, (zeroValue 35).run Tryd.prog W = .ok (.agg z) W := by
    rw [hz.out, ← zero16]; exact (zero_of_info (n := 16) (by kernel_rfl)).1
  have o0 := Lib.hid (limF0_ok n)
  have oR := Lib.hid (limF0_ok (pw n (P - 2)))
  rw [← hz.out] at o0 oR
  generalize limF (pw n (P - 2)) = R at *
  generalize limF n = x at *
  have H2 := Lib.hid (TwoF.new w x z)
  clear hn
  go_enter Tryd.func50, Tryd.ntmps50
  go_wp2_with (first | (refine wpList_load_row rfl 35 (.tmp 1) rfl w.heap.size rfl 35 x (0, 0) _ H2.out.1 Tryd.underlying35 rfl o0.out.1 ?_))
  refine (C1.out _).mono ?_
  rintro e w1 ⟨rfl, hb⟩
  have H3 := Lib.hid (H2.out.next hb)
  have H4 := Lib.hid (H3.out.snd R)
  clear hb
  go_wp2_with (first | (refine wpList_store_row rfl 35 (.tmp 2) (.tmp 4) rfl (w.heap.size + 1) R rfl rfl 35 z H3.out.2.1 oR.out.1 oR.out.2.2 oR.out.2.1 ?_))
  refine bodyPost_ret (v := .agg R) ?_ rfl ⟨rfl, H4.out.2.2⟩
  exact results_cell_row Tryd.results50 _ _ (w.heap.size + 1) 35 R (0, 0) _ rfl H4.out.2.1 Tryd.underlying35 rfl oR.out.1

set_option maxHeartbeats 8000000 in
set_option maxRecDepth 100000 in
theorem refRoot_any (n : Nat) (w : World) (hn : n < P) :
    Calls Tryd.prog 62 #[refV n] w fun e w' => e = .returned (.tuple #[refV (root n), .bool (decide (hasRoot n))]) ∧ Below w.heap.size w w' := by
  have hal : Tryd.prog.arrayLen 35 = 16 := by kernel_rfl
  have hel : Tryd.prog.elem 35 = 24 := by kernel_rfl
  unfold refV
  have HN := Lib.hid hn
  obtain ⟨q, hq⟩ := named ((P - 5) / 2 ^ 3)
  have C1 : Hid (∀ V, Calls Tryd.prog 71 #[.agg (limF n), .int .u64 5, .int .i64 3] V fun e w' => e = .returned (.agg (limF (pw n q))) ∧ Below V.heap.size V w') := Lib.hid fun V =>
    refPower_of n 5 3 q 5 3 rfl rfl HN.out (by omega) (by omega) hq.out.symm V
  have C2 : Hid (∀ V, Calls Tryd.prog 49 #[.agg (limF (pw n q)), .agg (limF n)] V fun e w' => e = .returned (.agg (limF (pw n E8))) ∧ Below V.heap.size V w') := Lib.hid fun V =>
    refMul_of (pw n q) n (pw n E8) (pw_lt _ _) HN.out (by rw [pw_next HN.out, hq.out, root_exp2]) V
  have hrl : pw n E8 < P := pw_lt _ _
  have hroot1 : root1 n = if pw n E8 * pw n E8 % P = n then pw n E8 else pw n E8 * I4 % P := rfl
  generalize pw n E8 = r at *
  have HR1 := Lib.hid hroot1
  have hr1l := root1_lt n
  have hroot : Hid (root n = if hasRoot n then (if root1 n % 2 = 1 then P - root1 n else root1 n) else 0) := Lib.hid rfl
  have hhas : Hid (hasRoot n ↔ root1 n * root1 n % P = n) := Lib.hid Iff.rfl
  obtain ⟨s1, hs1⟩ := named (r * r % P)
  have C3 : Hid (∀ V, Calls Tryd.prog 49 #[.agg (limF r), .agg (limF r)] V fun e w' => e = .returned (.agg (limF s1)) ∧ Below V.heap.size V w') := Lib.hid fun V => refMul_of r r s1 hrl hrl hs1.out.symm V
  have C4a : Hid (∀ V, Calls Tryd.prog 36 #[.int .u64 2] V fun e w' => e = .returned (.agg (limF 2)) ∧ Below V.heap.size V w') := Lib.hid fun V => refOf_any 2 (by decide) V
  have C4b : Hid (∀ V, Calls Tryd.prog 71 #[.agg (limF 2), .int .u64 1, .int .i64 2] V fun e w' => e = .returned (.agg (limF I4)) ∧ Below V.heap.size V w') := Lib.hid fun V => by
    have := refPower_of 2 1 2 ((P - 1) / 4) 1 2 rfl rfl (by decide) (by omega) (by omega) I4_exp V
    rwa [I4_pow] at this
  have C5 : Hid (∀ V, Calls Tryd.prog 49 #[.agg (limF r), .agg (limF I4)] V fun e w' => e = .returned (.agg (limF (r * I4 % P))) ∧ Below V.heap.size V w') := Lib.hid fun V => refMul_of r I4 _ hrl I4_lt rfl V
  obtain ⟨s2, hs2⟩ := named (root1 n * root1 n % P)
  have C6 : Hid (∀ V, Calls Tryd.prog 49 #[.agg (limF (root1 n)), .agg (limF (root1 n))] V fun e w' => e = .returned (.agg (limF s2)) ∧ Below V.heap.size V w') := Lib.hid fun V => refMul_of _ _ s2 hr1l hr1l hs2.out.symm V
  have C9 : Hid (∀ V, Calls Tryd.prog 35 #[.agg (limF (root1 n))] V fun e w' => e = .returned (.agg (limF ((P - root1 n) % P))) ∧ Below V.heap.size V w') := Lib.hid fun V => refNeg_any (root1 n) hr1l V
  have hs1l : s1 < P := by rw [hs1.out]; exact Nat.mod_lt _ P_pos
  have hs2l : s2 < P := by rw [hs2.out]; exact Nat.mod_lt _ P_pos
  obtain ⟨b1, hb1⟩ : ∃ b, Hid (b = !decide (s1 = n)) := ⟨_, Lib.hid rfl⟩
  obtain ⟨b2, hb2⟩ : ∃ b, Hid (b = !decide (s2 = n)) := ⟨_, Lib.hid rfl⟩
  have hd1 : Hid ((!decide (digs B s1 16 = digs B n 16)) = b1) := by
    rw [hb1.out]
    have := digs_eq (Nat.lt_trans hs1l (show P < 2 ^ 256 by decide)) (Nat.lt_trans hn (show P < 2 ^ 256 by decide))
    exact Lib.hid (by simp only [this])
  have hd2 : Hid ((!decide (digs B s2 16 = digs B n 16)) = b2) := by
    rw [hb2.out]
    have := digs_eq (Nat.lt_trans hs2l (show P < 2 ^ 256 by decide)) (Nat.lt_trans hn (show P < 2 ^ 256 by decide))
    exact Lib.hid (by simp only [this])
  obtain ⟨z, hz⟩ : ∃ z, Hid (z = limF 0) := ⟨_, Lib.hid rfl⟩
  have hz0 : ∀ W, (zeroValue 35).run Tryd.prog W = .ok (.agg z) W := by
    rw [hz.out, ← zero16]; exact (zero_of_info (n := 16) (by kernel_rfl)).1
  have o0 := Lib.hid (limF0_ok n)
  have or := Lib.hid (limF0_ok r)
  have oI := Lib.hid (limF0_ok (r * I4 % P))
  have o1 := Lib.hid (limF0_ok (root1 n))
  have oN := Lib.hid (limF0_ok ((P - root1 n) % P))
  have oz := Lib.hid (limF0_ok 0)
  have hsz : Hid ((limF r).size = (limF (r * I4 % P)).size ∧ (limF (root1 n)).size = (limF ((P - root1 n) % P)).size) := Lib.hid ⟨limF_sz _ _, limF_sz _ _⟩
  rw [← hz.out] at o0 or oI o1 oN oz
  obtain ⟨x, hx⟩ : ∃ c, Hid (c = limF n) := ⟨_, Lib.hid rfl⟩
  obtain ⟨cr, hcr⟩ : ∃ c, Hid (c = limF r) := ⟨_, Lib.hid rfl⟩
  obtain ⟨cI, hcI⟩ : ∃ c, Hid (c = limF (r * I4 % P)) := ⟨_, Lib.hid rfl⟩
  obtain ⟨c1, hc1⟩ : ∃ c, Hid (c = limF (root1 n)) := ⟨_, Lib.hid rfl⟩
  obtain ⟨cN, hcN⟩ : ∃ c, Hid (c = limF ((P - root1 n) % P)) := ⟨_, Lib.hid rfl⟩
  rw [← hx.out] at C1 C2 o0 ⊢
  rw [← hcr.out] at C2 C3 C5 or hsz
  rw [← hcI.out] at C5 oI hsz
  rw [← hc1.out] at C6 C9 o1 hsz
  rw [← hcN.out] at C9 oN hsz
  have h2 := TwoF.new w x z
  have HRl := Lib.hid hrl
  have HR1l := Lib.hid hr1l
  clear hn hroot1 hrl hr1l hs1l hs2l
  go_enter Tryd.func62, Tryd.ntmps62
  go_upto_region 1 with fail
  generalize (w.alloc (.cells x 35)).alloc (.cells z 35) = W at *
  have H2 := Lib.hid h2
  clear h2
  (try simp only [Act.put, List.setIfInBounds_toArray, List.set_cons_zero, List.set_cons_succ])
  go_cut [4] (fun p4 wx => ∃ g4, p4 = .pointer (some ⟨g4, 0, none⟩) ∧ ThreeF w x z cr g4 wx)
  case first =>
    refine wp_region_held_drew (S := fun V => Below W.heap.size W V) (by kernel_rfl) ((Below.refl _ _).drew) (fun hHeld => ?_)
    have HBW := Lib.hid ((Below.refl W.heap.size W).drew)
    generalize W.drew = VW at *
    refine' wpAnyH_take (i := 0) (oi := _) (v := .agg x) ?hit1 ?hst1 ?hft1 ?hrt1 ?hQt1 ?hyt1 ?hSt1 ?_
    case hit1 => (simp only [List.getElem?_toArray, List.getElem?_cons_succ, List.getElem?_cons_zero]; rfl)
    case hst1 => kernel_rfl
    case hft1 => kernel_rfl
    case hrt1 => kernel_rfl
    case hQt1 => exact fun _ _ _ h => h
    case hSt1 => assumption
    case hyt1 =>
      refine Or.inl ⟨by rfl, ?_⟩
      intro W hS
      exact quiet_load_row 35 (.tmp 1) _ rfl 35 x _ (H2.out.1.old hS) Tryd.underlying35 rfl o0.out.1 rfl
    (try simp only [Act.put, List.setIfInBounds_toArray, List.set_cons_zero, List.set_cons_succ])
    refine' wpAnyH_take (i := 2) (oi := _) (v := .agg x) ?hit2 ?hst2 ?hft2 ?hrt2 ?hQt2 ?hyt2 ?hSt2 ?_
    case hit2 => (simp only [List.getElem?_toArray, List.getElem?_cons_succ, List.getElem?_cons_zero]; rfl)
    case hst2 => kernel_rfl
    case hft2 => kernel_rfl
    case hrt2 => kernel_rfl
    case hQt2 => exact fun _ _ _ h => h
    case hSt2 => assumption
    case hyt2 =>
      refine Or.inl ⟨by rfl, ?_⟩
      intro W hS
      exact quiet_load_row 35 (.tmp 1) _ rfl 35 x _ (H2.out.1.old hS) Tryd.underlying35 rfl o0.out.1 rfl
    (try simp only [Act.put, List.setIfInBounds_toArray, List.set_cons_zero, List.set_cons_succ])
    refine wpAnyH_ready (rs := [1, 4]) (by kernel_rfl) (by simp) ?_
    refine' (AllReadyH.cons (o := _) ?hir3_1 (fun K hK => ?br3_1) (AllReadyH.cons (o := _) ?hir3_4 (fun K hK => ?br3_4) AllReadyH.nil))
    case hir3_1 => (simp only [List.getElem?_toArray, List.getElem?_cons_succ, List.getElem?_cons_zero]; rfl)
    case hir3_4 => (simp only [List.getElem?_toArray, List.getElem?_cons_succ, List.getElem?_cons_zero]; rfl)
    case br3_1 =>
      go_simp
      refine (C1.out _).mono ?_
      rintro e w4 ⟨rfl, hb4⟩
      have H4 := Lib.hid (HBW.out.trans (hb4.mono HBW.out.size))
      clear hb4
      go_wp2_with fail
      refine hK.out _ _ ?_ (fun hHeld => ?_)
      exact H4.out
      clear hK K
      (try simp only [Act.put, List.setIfInBounds_toArray, List.set_cons_zero, List.set_cons_succ])
      refine wpAnyH_ready (rs := [3, 4]) (by kernel_rfl) (by simp) ?_
      refine' (AllReadyH.cons (o := _) ?hir5_3 (fun K hK => ?br5_3) (AllReadyH.cons (o := _) ?hir5_4 (fun K hK => ?br5_4) AllReadyH.nil))
      case hir5_3 => (simp only [List.getElem?_toArray, List.getElem?_cons_succ, List.getElem?_cons_zero]; rfl)
      case hir5_4 => (simp only [List.getElem?_toArray, List.getElem?_cons_succ, List.getElem?_cons_zero]; rfl)
      case br5_3 =>
        go_simp
        refine (C2.out _).mono ?_
        rintro e w6 ⟨rfl, hb6⟩
        have H6 := Lib.hid (H4.out.trans (hb6.mono H4.out.size))
        clear hb6
        go_wp2_with fail
        refine hK.out _ _ ?_ (fun hHeld => ?_)
        exact H6.out
        clear hK K
        (try simp only [Act.put, List.setIfInBounds_toArray, List.set_cons_zero, List.set_cons_succ])
        refine wpAnyH_ready (rs := [4]) (by kernel_rfl) (by simp) ?_
        refine' (AllReadyH.cons (o := _) ?hir7_4 (fun K hK => ?br7_4) AllReadyH.nil)
        case hir7_4 => (simp only [List.getElem?_toArray, List.getElem?_cons_succ, List.getElem?_cons_zero]; rfl)
        case br7_4 =>
          go_simp
          refine hK.out _ _ ?_ (fun hHeld => ?_)
          · exact (H6.out.alloc H6.out.size _)
          have H8 := Lib.hid (H6.out.alloc H6.out.size (.cells z 35))
          have N4_8 := Lib.hid (alloc_new H6.out 35 z)
          have G4_8 := Lib.hid H6.out.size
          clear hK K
          (try simp only [Act.put, List.setIfInBounds_toArray, List.set_cons_zero, List.set_cons_succ])
          refine wpAnyH_ready (rs := [5]) (by kernel_rfl) (by simp) ?_
          refine' (AllReadyH.cons (o := _) ?hir9_5 (fun K hK => ?br9_5) AllReadyH.nil)
          case hir9_5 => (simp only [List.getElem?_toArray, List.getElem?_cons_succ, List.getElem?_cons_zero]; rfl)
          case br9_5 =>
            refine step_of_wp rfl ?_
            refine wp_store_row 35 (.tmp 4) (.tmp 8) rfl _ cr rfl rfl 35 _ N4_8.out or.out.1 or.out.2.2 or.out.2.1 ?_
            refine hK.out _ _ ?_ (fun hHeld => ?_)
            exact below_row H8.out G4_8.out _
            clear hK K
            (try simp only [Act.put, List.setIfInBounds_toArray, List.set_cons_zero, List.set_cons_succ])
            refine wpAnyH_done (by kernel_rfl) ?_ _
            go_wp2_with fail
            go_meet
            exact ⟨_, rfl, (H2.out.next H8.out).far (by have := H2.out.lt; have := G4_8.out; omega) _, N4_8.out.row _, by have := H2.out.lt; have := G4_8.out; omega⟩
      case br5_4 =>
        go_simp
        refine hK.out _ _ ?_ (fun hHeld => ?_)
        · exact (H4.out.alloc H4.out.size _)
        have H11 := Lib.hid (H4.out.alloc H4.out.size (.cells z 35))
        have N4_11 := Lib.hid (alloc_new H4.out 35 z)
        have G4_11 := Lib.hid H4.out.size
        clear hK K
        (try simp only [Act.put, List.setIfInBounds_toArray, List.set_cons_zero, List.set_cons_succ])
        refine wpAnyH_ready (rs := [3]) (by kernel_rfl) (by simp) ?_
        refine' (AllReadyH.cons (o := _) ?hir12_3 (fun K hK => ?br12_3) AllReadyH.nil)
        case hir12_3 => (simp only [List.getElem?_toArray, List.getElem?_cons_succ, List.getElem?_cons_zero]; rfl)
        case br12_3 =>
          go_simp
          refine (C2.out _).mono ?_
          rintro e w13 ⟨rfl, hb13⟩
          have H13 := Lib.hid (H11.out.trans (hb13.mono H11.out.size))
          have N4_13 := Lib.hid (N4_11.out.old hb13)
          clear hb13
          go_wp2_with fail
          refine hK.out _ _ ?_ (fun hHeld => ?_)
          exact H13.out
          clear hK K
          (try simp only [Act.put, List.setIfInBounds_toArray, List.set_cons_zero, List.set_cons_succ])
          refine wpAnyH_ready (rs := [5]) (by kernel_rfl) (by simp) ?_
          refine' (AllReadyH.cons (o := _) ?hir14_5 (fun K hK => ?br14_5) AllReadyH.nil)
          case hir14_5 => (simp only [List.getElem?_toArray, List.getElem?_cons_succ, List.getElem?_cons_zero]; rfl)
          case br14_5 =>
            refine step_of_wp rfl ?_
            refine wp_store_row 35 (.tmp 4) (.tmp 8) rfl _ cr rfl rfl 35 _ N4_13.out or.out.1 or.out.2.2 or.out.2.1 ?_
            refine hK.out _ _ ?_ (fun hHeld => ?_)
            exact below_row H13.out G4_11.out _
            clear hK K
            (try simp only [Act.put, List.setIfInBounds_toArray, List.set_cons_zero, List.set_cons_succ])
            refine wpAnyH_done (by kernel_rfl) ?_ _
            go_wp2_with fail
            go_meet
            exact ⟨_, rfl, (H2.out.next H13.out).far (by have := H2.out.lt; have := G4_11.out; omega) _, N4_13.out.row _, by have := H2.out.lt; have := G4_11.out; omega⟩
    case br3_4 =>
      go_simp
      refine hK.out _ _ ?_ (fun hHeld => ?_)
      · exact (HBW.out.alloc HBW.out.size _)
      have H16 := Lib.hid (HBW.out.alloc HBW.out.size (.cells z 35))
      have N4_16 := Lib.hid (alloc_new HBW.out 35 z)
      have G4_16 := Lib.hid HBW.out.size
      clear hK K
      (try simp only [Act.put, List.setIfInBounds_toArray, List.set_cons_zero, List.set_cons_succ])
      refine wpAnyH_ready (rs := [1]) (by kernel_rfl) (by simp) ?_
      refine' (AllReadyH.cons (o := _) ?hir17_1 (fun K hK => ?br17_1) AllReadyH.nil)
      case hir17_1 => (simp only [List.getElem?_toArray, List.getElem?_cons_succ, List.getElem?_cons_zero]; rfl)
      case br17_1 =>
        go_simp
        refine (C1.out _).mono ?_
        rintro e w18 ⟨rfl, hb18⟩
        have H18 := Lib.hid (H16.out.trans (hb18.mono H16.out.size))
        have N4_18 := Lib.hid (N4_16.out.old hb18)
        clear hb18
        go_wp2_with fail
        refine hK.out _ _ ?_ (fun hHeld => ?_)
        exact H18.out
        clear hK K
        (try simp only [Act.put, List.setIfInBounds_toArray, List.set_cons_zero, List.set_cons_succ])
        refine wpAnyH_ready (rs := [3]) (by kernel_rfl) (by simp) ?_
        refine' (AllReadyH.cons (o := _) ?hir19_3 (fun K hK => ?br19_3) AllReadyH.nil)
        case hir19_3 => (simp only [List.getElem?_toArray, List.getElem?_cons_succ, List.getElem?_cons_zero]; rfl)
        case br19_3 =>
          go_simp
          refine (C2.out _).mono ?_
          rintro e w20 ⟨rfl, hb20⟩
          have H20 := Lib.hid (H18.out.trans (hb20.mono H18.out.size))
          have N4_20 := Lib.hid (N4_18.out.old hb20)
          clear hb20
          go_wp2_with fail
          refine hK.out _ _ ?_ (fun hHeld => ?_)
          exact H20.out
          clear hK K
          (try simp only [Act.put, List.setIfInBounds_toArray, List.set_cons_zero, List.set_cons_succ])
          refine wpAnyH_ready (rs := [5]) (by kernel_rfl) (by simp) ?_
          refine' (AllReadyH.cons (o := _) ?hir21_5 (fun K hK => ?br21_5) AllReadyH.nil)
          case hir21_5 => (simp only [List.getElem?_toArray, List.getElem?_cons_succ, List.getElem?_cons_zero]; rfl)
          case br21_5 =>
            refine step_of_wp rfl ?_
            refine wp_store_row 35 (.tmp 4) (.tmp 8) rfl _ cr rfl rfl 35 _ N4_20.out or.out.1 or.out.2.2 or.out.2.1 ?_
            refine hK.out _ _ ?_ (fun hHeld => ?_)
            exact below_row H20.out G4_16.out _
            clear hK K
            (try simp only [Act.put, List.setIfInBounds_toArray, List.set_cons_zero, List.set_cons_succ])
            refine wpAnyH_done (by kernel_rfl) ?_ _
            go_wp2_with fail
            go_meet
            exact ⟨_, rfl, (H2.out.next H20.out).far (by have := H2.out.lt; have := G4_16.out; omega) _, N4_20.out.row _, by have := H2.out.lt; have := G4_16.out; omega⟩
  case rest =>
    obtain ⟨g4, rfl, h3⟩ := hcut
    have H3 := Lib.hid h3
    clear h3 hz0
    go_upto_region 2 with fail
    (try simp only [Act.put, List.setIfInBounds_toArray, List.set_cons_zero, List.set_cons_succ])
    generalize wc = W1 at *
    refine wp_region_held_drew (S := fun V => Below W1.heap.size W1 V) (by kernel_rfl) ((Below.refl _ _).drew) (fun hHeld => ?_)
    have HBW1 := Lib.hid ((Below.refl W1.heap.size W1).drew)
    generalize W1.drew = VW1 at *
    refine' wpAnyH_take (i := 0) (oi := _) (v := .agg cr) ?hit23 ?hst23 ?hft23 ?hrt23 ?hQt23 ?hyt23 ?hSt23 ?_
    case hit23 => (simp only [List.getElem?_toArray, List.getElem?_cons_succ, List.getElem?_cons_zero]; rfl)
    case hst23 => kernel_rfl
    case hft23 => kernel_rfl
    case hrt23 => kernel_rfl
    case hQt23 => exact fun _ _ _ h => h
    case hSt23 => assumption
    case hyt23 =>
      refine Or.inl ⟨by rfl, ?_⟩
      intro W hS
      exact quiet_load_row 35 (.tmp 4) _ rfl 35 cr _ (H3.out.2.1.old hS) Tryd.underlying35 rfl or.out.1 rfl
    (try simp only [Act.put, List.setIfInBounds_toArray, List.set_cons_zero, List.set_cons_succ])
    refine' wpAnyH_take (i := 1) (oi := _) (v := .agg cr) ?hit24 ?hst24 ?hft24 ?hrt24 ?hQt24 ?hyt24 ?hSt24 ?_
    case hit24 => (simp only [List.getElem?_toArray, List.getElem?_cons_succ, List.getElem?_cons_zero]; rfl)
    case hst24 => kernel_rfl
    case hft24 => kernel_rfl
    case hrt24 => kernel_rfl
    case hQt24 => exact fun _ _ _ h => h
    case hSt24 => assumption
    case hyt24 =>
      refine Or.inl ⟨by rfl, ?_⟩
      intro W hS
      exact quiet_load_row 35 (.tmp 4) _ rfl 35 cr _ (H3.out.2.1.old hS) Tryd.underlying35 rfl or.out.1 rfl
    (try simp only [Act.put, List.setIfInBounds_toArray, List.set_cons_zero, List.set_cons_succ])
    refine' wpAnyH_take (i := 3) (oi := _) (v := .agg x) ?hit25 ?hst25 ?hft25 ?hrt25 ?hQt25 ?hyt25 ?hSt25 ?_
    case hit25 => (simp only [List.getElem?_toArray, List.getElem?_cons_succ, List.getElem?_cons_zero]; rfl)
    case hst25 => kernel_rfl
    case hft25 => kernel_rfl
    case hrt25 => kernel_rfl
    case hQt25 => exact fun _ _ _ h => h
    case hSt25 => assumption
    case hyt25 =>
      refine Or.inl ⟨by rfl, ?_⟩
      intro W hS
      exact quiet_load_row 35 (.tmp 1) _ rfl 35 x _ (H3.out.1.1.old hS) Tryd.underlying35 rfl o0.out.1 rfl
    (try simp only [Act.put, List.setIfInBounds_toArray, List.set_cons_zero, List.set_cons_succ])
    refine wpAnyH_ready (rs := [2]) (by kernel_rfl) (by simp) ?_
    refine' (AllReadyH.cons (o := _) ?hir26_2 (fun K hK => ?br26_2) AllReadyH.nil)
    case hir26_2 => (simp only [List.getElem?_toArray, List.getElem?_cons_succ, List.getElem?_cons_zero]; rfl)
    case br26_2 =>
      go_simp
      refine (C3.out _).mono ?_
      rintro e w27 ⟨rfl, hb27⟩
      have H27 := Lib.hid (HBW1.out.trans (hb27.mono HBW1.out.size))
      clear hb27
      go_wp2_with fail
      refine hK.out _ _ ?_ (fun hHeld => ?_)
      exact H27.out
      clear hK K
      (try simp only [Act.put, List.setIfInBounds_toArray, List.set_cons_zero, List.set_cons_succ])
      refine' wpAnyH_take (i := 4) (oi := _) (v := .bool b1) ?hit28 ?hst28 ?hft28 ?hrt28 ?hQt28 ?hyt28 ?hSt28 ?_
      case hit28 => (simp only [List.getElem?_toArray, List.getElem?_cons_succ, List.getElem?_cons_zero]; rfl)
      case hst28 => kernel_rfl
      case hft28 => kernel_rfl
      case hrt28 => kernel_rfl
      case hQt28 => exact fun _ _ _ h => h
      case hSt28 => assumption
      case hyt28 =>
        refine Or.inl ⟨by rfl, ?_⟩
        intro W hS
        rw [← hd1.out]; exact quiet_neq_F W (.tmp 11) (.tmp 12) 35 _ _ (digs_length _ _ _) (digs_length _ _ _) rfl (show Value.agg x = .agg (limF n) by rw [hx.out]) rfl
      (try simp only [Act.put, List.setIfInBounds_toArray, List.set_cons_zero, List.set_cons_succ])
      refine wpAnyH_done (by kernel_rfl) ?_ _
      have H4 := Lib.hid (H3.out.next H27.out)
      clear hHeld
      go_upto_if 13 with fail
      (try simp only [Act.put, List.setIfInBounds_toArray, List.set_cons_zero, List.set_cons_succ])
      go_cut [] (fun wx => ThreeF w x z c1 g4 wx)
      case first =>
        cases hb1v : b1
        · have e1 : Hid (cr = c1) := by
            rw [hcr.out, hc1.out, HR1.out, if_pos (by have h0 := hb1.out; rw [hb1v] at h0; have h2 : s1 = n := by simpa using h0.symm
                                                      rw [← hs1.out]; exact h2)]; exact Lib.hid rfl
          clear hb1v
          go_wp2_with fail
          go_meet
          exact (by rw [← e1.out]; exact H4.out)
        · have e1 : Hid (cI = c1) := by
            rw [hcI.out, hc1.out, HR1.out, if_neg (by have h0 := hb1.out; rw [hb1v] at h0; have h2 : ¬ s1 = n := by simpa using h0.symm
                                                      rw [← hs1.out]; exact h2)]; exact Lib.hid rfl
          clear hb1v
          go_upto_region 3 with fail
          (try simp only [Act.put, List.setIfInBounds_toArray, List.set_cons_zero, List.set_cons_succ])
          refine wp_region_held_drew (S := fun V => Far g4 w27 V) (by kernel_rfl) (Far.of (Below.refl _ _).drew) (fun hHeld => ?_)
          have HBw27 := Lib.hid ((Below.refl w27.heap.size w27).drew)
          generalize w27.drew = Vw27 at *
          refine wpAnyH_ready (rs := [0, 1]) (by kernel_rfl) (by simp) ?_
          refine' (AllReadyH.cons (o := _) ?hir29_0 (fun K hK => ?br29_0) (AllReadyH.cons (o := _) ?hir29_1 (fun K hK => ?br29_1) AllReadyH.nil))
          case hir29_0 => (simp only [List.getElem?_toArray, List.getElem?_cons_succ, List.getElem?_cons_zero]; rfl)
          case hir29_1 => (simp only [List.getElem?_toArray, List.getElem?_cons_succ, List.getElem?_cons_zero]; rfl)
          case br29_0 =>
            refine step_of_wp rfl ?_
            refine wp_load_row 35 (.tmp 4) rfl g4 rfl 35 cr (0, 0) _ (H4.out.2.1.old HBw27.out) Tryd.underlying35 rfl or.out.1 ?_
            refine hK.out _ _ ?_ (fun hHeld => ?_)
            exact Far.of HBw27.out
            clear hK K
            (try simp only [Act.put, List.setIfInBounds_toArray, List.set_cons_zero, List.set_cons_succ])
            refine wpAnyH_ready (rs := [1]) (by kernel_rfl) (by simp) ?_
            refine' (AllReadyH.cons (o := _) ?hir31_1 (fun K hK => ?br31_1) AllReadyH.nil)
            case hir31_1 => (simp only [List.getElem?_toArray, List.getElem?_cons_succ, List.getElem?_cons_zero]; rfl)
            case br31_1 =>
              go_simp
              refine (C4a.out _).mono ?_
              rintro e w32 ⟨rfl, hb32⟩
              have H32 := Lib.hid (HBw27.out.trans (hb32.mono HBw27.out.size))
              clear hb32
              go_wp2_with fail
              refine hK.out _ _ ?_ (fun hHeld => ?_)
              exact Far.of H32.out
              clear hK K
              (try simp only [Act.put, List.setIfInBounds_toArray, List.set_cons_zero, List.set_cons_succ])
              refine wpAnyH_ready (rs := [2]) (by kernel_rfl) (by simp) ?_
              refine' (AllReadyH.cons (o := _) ?hir33_2 (fun K hK => ?br33_2) AllReadyH.nil)
              case hir33_2 => (simp only [List.getElem?_toArray, List.getElem?_cons_succ, List.getElem?_cons_zero]; rfl)
              case br33_2 =>
                go_simp
                refine (C4b.out _).mono ?_
                rintro e w34 ⟨rfl, hb34⟩
                have H34 := Lib.hid (H32.out.trans (hb34.mono H32.out.size))
                clear hb34
                go_wp2_with fail
                refine hK.out _ _ ?_ (fun hHeld => ?_)
                exact Far.of H34.out
                clear hK K
                (try simp only [Act.put, List.setIfInBounds_toArray, List.set_cons_zero, List.set_cons_succ])
                refine wpAnyH_ready (rs := [3]) (by kernel_rfl) (by simp) ?_
                refine' (AllReadyH.cons (o := _) ?hir35_3 (fun K hK => ?br35_3) AllReadyH.nil)
                case hir35_3 => (simp only [List.getElem?_toArray, List.getElem?_cons_succ, List.getElem?_cons_zero]; rfl)
                case br35_3 =>
                  go_simp
                  refine (C5.out _).mono ?_
                  rintro e w36 ⟨rfl, hb36⟩
                  have H36 := Lib.hid (H34.out.trans (hb36.mono H34.out.size))
                  clear hb36
                  go_wp2_with fail
                  refine hK.out _ _ ?_ (fun hHeld => ?_)
                  exact Far.of H36.out
                  clear hK K
                  (try simp only [Act.put, List.setIfInBounds_toArray, List.set_cons_zero, List.set_cons_succ])
                  refine wpAnyH_ready (rs := [4]) (by kernel_rfl) (by simp) ?_
                  refine' (AllReadyH.cons (o := _) ?hir37_4 (fun K hK => ?br37_4) AllReadyH.nil)
                  case hir37_4 => (simp only [List.getElem?_toArray, List.getElem?_cons_succ, List.getElem?_cons_zero]; rfl)
                  case br37_4 =>
                    refine step_of_wp rfl ?_
                    refine wp_store_row 35 (.tmp 4) (.tmp 17) rfl g4 cI rfl rfl 35 cr (H4.out.2.1.old H36.out) oI.out.1 hsz.out.1 oI.out.2.1 ?_
                    refine hK.out _ _ ?_ (fun hHeld => ?_)
                    exact (Far.of H36.out).row _
                    clear hK K
                    (try simp only [Act.put, List.setIfInBounds_toArray, List.set_cons_zero, List.set_cons_succ])
                    refine wpAnyH_done (by kernel_rfl) ?_ _
                    have H5 := Lib.hid ((H4.out.next H36.out).third cI)
                    clear hHeld
                    go_wp2_with fail
                    go_meet
                    exact (by rw [← e1.out]; exact H5.out)
          case br29_1 =>
            go_simp
            refine (C4a.out _).mono ?_
            rintro e w39 ⟨rfl, hb39⟩
            have H39 := Lib.hid (HBw27.out.trans (hb39.mono HBw27.out.size))
            clear hb39
            go_wp2_with fail
            refine hK.out _ _ ?_ (fun hHeld => ?_)
            exact Far.of H39.out
            clear hK K
            (try simp only [Act.put, List.setIfInBounds_toArray, List.set_cons_zero, List.set_cons_succ])
            refine wpAnyH_ready (rs := [0, 2]) (by kernel_rfl) (by simp) ?_
            refine' (AllReadyH.cons (o := _) ?hir40_0 (fun K hK => ?br40_0) (AllReadyH.cons (o := _) ?hir40_2 (fun K hK => ?br40_2) AllReadyH.nil))
            case hir40_0 => (simp only [List.getElem?_toArray, List.getElem?_cons_succ, List.getElem?_cons_zero]; rfl)
            case hir40_2 => (simp only [List.getElem?_toArray, List.getElem?_cons_succ, List.getElem?_cons_zero]; rfl)
            case br40_0 =>
              refine step_of_wp rfl ?_
              refine wp_load_row 35 (.tmp 4) rfl g4 rfl 35 cr (0, 0) _ (H4.out.2.1.old H39.out) Tryd.underlying35 rfl or.out.1 ?_
              refine hK.out _ _ ?_ (fun hHeld => ?_)
              exact Far.of H39.out
              clear hK K
              (try simp only [Act.put, List.setIfInBounds_toArray, List.set_cons_zero, List.set_cons_succ])
              refine wpAnyH_ready (rs := [2]) (by kernel_rfl) (by simp) ?_
              refine' (AllReadyH.cons (o := _) ?hir42_2 (fun K hK => ?br42_2) AllReadyH.nil)
              case hir42_2 => (simp only [List.getElem?_toArray, List.getElem?_cons_succ, List.getElem?_cons_zero]; rfl)
              case br42_2 =>
                go_simp
                refine (C4b.out _).mono ?_
                rintro e w43 ⟨rfl, hb43⟩
                have H43 := Lib.hid (H39.out.trans (hb43.mono H39.out.size))
                clear hb43
                go_wp2_with fail
                refine hK.out _ _ ?_ (fun hHeld => ?_)
                exact Far.of H43.out
                clear hK K
                (try simp only [Act.put, List.setIfInBounds_toArray, List.set_cons_zero, List.set_cons_succ])
                refine wpAnyH_ready (rs := [3]) (by kernel_rfl) (by simp) ?_
                refine' (AllReadyH.cons (o := _) ?hir44_3 (fun K hK => ?br44_3) AllReadyH.nil)
                case hir44_3 => (simp only [List.getElem?_toArray, List.getElem?_cons_succ, List.getElem?_cons_zero]; rfl)
                case br44_3 =>
                  go_simp
                  refine (C5.out _).mono ?_
                  rintro e w45 ⟨rfl, hb45⟩
                  have H45 := Lib.hid (H43.out.trans (hb45.mono H43.out.size))
                  clear hb45
                  go_wp2_with fail
                  refine hK.out _ _ ?_ (fun hHeld => ?_)
                  exact Far.of H45.out
                  clear hK K
                  (try simp only [Act.put, List.setIfInBounds_toArray, List.set_cons_zero, List.set_cons_succ])
                  refine wpAnyH_ready (rs := [4]) (by kernel_rfl) (by simp) ?_
                  refine' (AllReadyH.cons (o := _) ?hir46_4 (fun K hK => ?br46_4) AllReadyH.nil)
                  case hir46_4 => (simp only [List.getElem?_toArray, List.getElem?_cons_succ, List.getElem?_cons_zero]; rfl)
                  case br46_4 =>
                    refine step_of_wp rfl ?_
                    refine wp_store_row 35 (.tmp 4) (.tmp 17) rfl g4 cI rfl rfl 35 cr (H4.out.2.1.old H45.out) oI.out.1 hsz.out.1 oI.out.2.1 ?_
                    refine hK.out _ _ ?_ (fun hHeld => ?_)
                    exact (Far.of H45.out).row _
                    clear hK K
                    (try simp only [Act.put, List.setIfInBounds_toArray, List.set_cons_zero, List.set_cons_succ])
                    refine wpAnyH_done (by kernel_rfl) ?_ _
                    have H5 := Lib.hid ((H4.out.next H45.out).third cI)
                    clear hHeld
                    go_wp2_with fail
                    go_meet
                    exact (by rw [← e1.out]; exact H5.out)
            case br40_2 =>
              go_simp
              refine (C4b.out _).mono ?_
              rintro e w48 ⟨rfl, hb48⟩
              have H48 := Lib.hid (H39.out.trans (hb48.mono H39.out.size))
              clear hb48
              go_wp2_with fail
              refine hK.out _ _ ?_ (fun hHeld => ?_)
              exact Far.of H48.out
              clear hK K
              (try simp only [Act.put, List.setIfInBounds_toArray, List.set_cons_zero, List.set_cons_succ])
              refine wpAnyH_ready (rs := [0]) (by kernel_rfl) (by simp) ?_
              refine' (AllReadyH.cons (o := _) ?hir49_0 (fun K hK => ?br49_0) AllReadyH.nil)
              case hir49_0 => (simp only [List.getElem?_toArray, List.getElem?_cons_succ, List.getElem?_cons_zero]; rfl)
              case br49_0 =>
                refine step_of_wp rfl ?_
                refine wp_load_row 35 (.tmp 4) rfl g4 rfl 35 cr (0, 0) _ (H4.out.2.1.old H48.out) Tryd.underlying35 rfl or.out.1 ?_
                refine hK.out _ _ ?_ (fun hHeld => ?_)
                exact Far.of H48.out
                clear hK K
                (try simp only [Act.put, List.setIfInBounds_toArray, List.set_cons_zero, List.set_cons_succ])
                refine wpAnyH_ready (rs := [3]) (by kernel_rfl) (by simp) ?_
                refine' (AllReadyH.cons (o := _) ?hir51_3 (fun K hK => ?br51_3) AllReadyH.nil)
                case hir51_3 => (simp only [List.getElem?_toArray, List.getElem?_cons_succ, List.getElem?_cons_zero]; rfl)
                case br51_3 =>
                  go_simp
                  refine (C5.out _).mono ?_
                  rintro e w52 ⟨rfl, hb52⟩
                  have H52 := Lib.hid (H48.out.trans (hb52.mono H48.out.size))
                  clear hb52
                  go_wp2_with fail
                  refine hK.out _ _ ?_ (fun hHeld => ?_)
                  exact Far.of H52.out
                  clear hK K
                  (try simp only [Act.put, List.setIfInBounds_toArray, List.set_cons_zero, List.set_cons_succ])
                  refine wpAnyH_ready (rs := [4]) (by kernel_rfl) (by simp) ?_
                  refine' (AllReadyH.cons (o := _) ?hir53_4 (fun K hK => ?br53_4) AllReadyH.nil)
                  case hir53_4 => (simp only [List.getElem?_toArray, List.getElem?_cons_succ, List.getElem?_cons_zero]; rfl)
                  case br53_4 =>
                    refine step_of_wp rfl ?_
                    refine wp_store_row 35 (.tmp 4) (.tmp 17) rfl g4 cI rfl rfl 35 cr (H4.out.2.1.old H52.out) oI.out.1 hsz.out.1 oI.out.2.1 ?_
                    refine hK.out _ _ ?_ (fun hHeld => ?_)
                    exact (Far.of H52.out).row _
                    clear hK K
                    (try simp only [Act.put, List.setIfInBounds_toArray, List.set_cons_zero, List.set_cons_succ])
                    refine wpAnyH_done (by kernel_rfl) ?_ _
                    have H5 := Lib.hid ((H4.out.next H52.out).third cI)
                    clear hHeld
                    go_wp2_with fail
                    go_meet
                    exact (by rw [← e1.out]; exact H5.out)
      case rest =>
        have H7 := Lib.hid hcut
        clear hcut
        go_upto_region 4 with fail
        generalize wc = W4 at *
        (try simp only [Act.put, List.setIfInBounds_toArray, List.set_cons_zero, List.set_cons_succ])
        refine wp_region_held_drew (S := fun V => Below W4.heap.size W4 V) (by kernel_rfl) ((Below.refl _ _).drew) (fun hHeld => ?_)
        have HBW4 := Lib.hid ((Below.refl W4.heap.size W4).drew)
        generalize W4.drew = VW4 at *
        refine' wpAnyH_take (i := 0) (oi := _) (v := .agg c1) ?hit55 ?hst55 ?hft55 ?hrt55 ?hQt55 ?hyt55 ?hSt55 ?_
        case hit55 => (simp only [List.getElem?_toArray, List.getElem?_cons_succ, List.getElem?_cons_zero]; rfl)
        case hst55 => kernel_rfl
        case hft55 => kernel_rfl
        case hrt55 => kernel_rfl
        case hQt55 => exact fun _ _ _ h => h
        case hSt55 => assumption
        case hyt55 =>
          refine Or.inl ⟨by rfl, ?_⟩
          intro W hS
          exact quiet_load_row 35 (.tmp 4) _ rfl 35 c1 _ (H7.out.2.1.old hS) Tryd.underlying35 rfl o1.out.1 rfl
        (try simp only [Act.put, List.setIfInBounds_toArray, List.set_cons_zero, List.set_cons_succ])
        refine' wpAnyH_take (i := 1) (oi := _) (v := .agg c1) ?hit56 ?hst56 ?hft56 ?hrt56 ?hQt56 ?hyt56 ?hSt56 ?_
        case hit56 => (simp only [List.getElem?_toArray, List.getElem?_cons_succ, List.getElem?_cons_zero]; rfl)
        case hst56 => kernel_rfl
        case hft56 => kernel_rfl
        case hrt56 => kernel_rfl
        case hQt56 => exact fun _ _ _ h => h
        case hSt56 => assumption
        case hyt56 =>
          refine Or.inl ⟨by rfl, ?_⟩
          intro W hS
          exact quiet_load_row 35 (.tmp 4) _ rfl 35 c1 _ (H7.out.2.1.old hS) Tryd.underlying35 rfl o1.out.1 rfl
        (try simp only [Act.put, List.setIfInBounds_toArray, List.set_cons_zero, List.set_cons_succ])
        refine' wpAnyH_take (i := 3) (oi := _) (v := .agg x) ?hit57 ?hst57 ?hft57 ?hrt57 ?hQt57 ?hyt57 ?hSt57 ?_
        case hit57 => (simp only [List.getElem?_toArray, List.getElem?_cons_succ, List.getElem?_cons_zero]; rfl)
        case hst57 => kernel_rfl
        case hft57 => kernel_rfl
        case hrt57 => kernel_rfl
        case hQt57 => exact fun _ _ _ h => h
        case hSt57 => assumption
        case hyt57 =>
          refine Or.inl ⟨by rfl, ?_⟩
          intro W hS
          exact quiet_load_row 35 (.tmp 1) _ rfl 35 x _ (H7.out.1.1.old hS) Tryd.underlying35 rfl o0.out.1 rfl
        (try simp only [Act.put, List.setIfInBounds_toArray, List.set_cons_zero, List.set_cons_succ])
        refine wpAnyH_ready (rs := [2]) (by kernel_rfl) (by simp) ?_
        refine' (AllReadyH.cons (o := _) ?hir58_2 (fun K hK => ?br58_2) AllReadyH.nil)
        case hir58_2 => (simp only [List.getElem?_toArray, List.getElem?_cons_succ, List.getElem?_cons_zero]; rfl)
        case br58_2 =>
          go_simp
          refine (C6.out _).mono ?_
          rintro e w59 ⟨rfl, hb59⟩
          have H59 := Lib.hid (HBW4.out.trans (hb59.mono HBW4.out.size))
          clear hb59
          go_wp2_with fail
          refine hK.out _ _ ?_ (fun hHeld => ?_)
          exact H59.out
          clear hK K
          (try simp only [Act.put, List.setIfInBounds_toArray, List.set_cons_zero, List.set_cons_succ])
          refine' wpAnyH_take (i := 4) (oi := _) (v := .bool b2) ?hit60 ?hst60 ?hft60 ?hrt60 ?hQt60 ?hyt60 ?hSt60 ?_
          case hit60 => (simp only [List.getElem?_toArray, List.getElem?_cons_succ, List.getElem?_cons_zero]; rfl)
          case hst60 => kernel_rfl
          case hft60 => kernel_rfl
          case hrt60 => kernel_rfl
          case hQt60 => exact fun _ _ _ h => h
          case hSt60 => assumption
          case hyt60 =>
            refine Or.inl ⟨by rfl, ?_⟩
            intro W hS
            rw [← hd2.out]; exact quiet_neq_F W (.tmp 20) (.tmp 21) 35 _ _ (digs_length _ _ _) (digs_length _ _ _) rfl (show Value.agg x = .agg (limF n) by rw [hx.out]) rfl
          (try simp only [Act.put, List.setIfInBounds_toArray, List.set_cons_zero, List.set_cons_succ])
          refine wpAnyH_done (by kernel_rfl) ?_ _
          have H8 := Lib.hid (H7.out.next H59.out)
          clear hHeld
          cases hb2v : b2
          case true =>
            have hno : ¬ hasRoot n := by rw [hhas.out, ← hs2.out]; have h0 := hb2.out; rw [hb2v] at h0; simpa using h0.symm
            have hr0 : Hid (root n = 0) := by rw [hroot.out, if_neg hno]; exact Lib.hid rfl
            have hd : Hid (decide (hasRoot n) = false) := Lib.hid (by simpa using hno)
            have hzl : Hid ((#[.int .u64 0, .int .u64 0, .int .u64 0, .int .u64 0, .int .u64 0, .int .u64 0, .int .u64 0, .int .u64 0, .int .u64 0, .int .u64 0, .int .u64 0, .int .u64 0, .int .u64 0, .int .u64 0, .int .u64 0, .int .u64 0] : Array Value) = z) := by rw [hz.out]; exact Lib.hid limFZ
            rw [← hzl.out] at oz
            have H9 := Lib.hid (H8.out.1.snd #[.int .u64 0, .int .u64 0, .int .u64 0, .int .u64 0, .int .u64 0, .int .u64 0, .int .u64 0, .int .u64 0, .int .u64 0, .int .u64 0, .int .u64 0, .int .u64 0, .int .u64 0, .int .u64 0, .int .u64 0, .int .u64 0])
            clear hno hb2v
            go_wp2_with (first | (refine wpList_store_row rfl 35 (.tmp 2) (.tmp 23) rfl (w.heap.size + 1) #[.int .u64 0, .int .u64 0, .int .u64 0, .int .u64 0, .int .u64 0, .int .u64 0, .int .u64 0, .int .u64 0, .int .u64 0, .int .u64 0, .int .u64 0, .int .u64 0, .int .u64 0, .int .u64 0, .int .u64 0, .int .u64 0] rfl rfl 35 z H8.out.1.2.1 oz.out.1 (by rw [← hzl.out]) oz.out.2.1 ?_))
            refine bodyPost_ret (v := .tuple #[.agg #[.int .u64 0, .int .u64 0, .int .u64 0, .int .u64 0, .int .u64 0, .int .u64 0, .int .u64 0, .int .u64 0, .int .u64 0, .int .u64 0, .int .u64 0, .int .u64 0, .int .u64 0, .int .u64 0, .int .u64 0, .int .u64 0], .bool false]) ?_ rfl ⟨by rw [hr0.out, hd.out, ← hz.out, ← hzl.out], H9.out.2.2⟩
            exact results_row_tmp Tryd.results62 _ _ (w.heap.size + 1) 35 _ _ _ _ rfl rfl H9.out.2.1 Tryd.underlying35 oz.out.1
          case false =>
            have hyes : hasRoot n := by rw [hhas.out, ← hs2.out]; have h0 := hb2.out; rw [hb2v] at h0; simpa using h0.symm
            have hd : Hid (decide (hasRoot n) = true) := Lib.hid (by simpa using hyes)
            have hrr : root n = if root1 n % 2 = 1 then P - root1 n else root1 n := by rw [hroot.out, if_pos hyes]
            have HRR := Lib.hid hrr
            clear hyes hb2v hrr
            obtain ⟨y0, hy0⟩ := named ((digs B (root1 n) 16).getD 0 0)
            have hcell : ∀ V, Blk V g4 35 c1 → V.cell? ⟨g4, 0, none⟩ = some (.int .u64 (y0 : Int)) := fun V hV => by
              have := hV.cell 0
              rw [this, hc1.out, limF, u64s_get _ _ (by rw [digs_length]; omega), hy0.out]
            have hcc := hcell _ H8.out.2.1
            have hpar : Hid (y0 % 2 = root1 n % 2) := Lib.hid (by rw [hy0.out, digs_at (by omega), Nat.pow_zero, Nat.div_one]; unfold B; omega)
            have hyB : y0 < 65536 := by rw [hy0.out, digs_at (by omega)]; exact Nat.mod_lt _ (by decide)
            obtain ⟨b, hb⟩ := named (y0 % 2)
            have e1' : (y0 : Int) % 2 = (b : Int) := by rw [hb.out]; omega
            have e2' : (y0 : Int).tmod 2 = (b : Int) := by rw [Int.tmod_eq_emod_of_nonneg (by omega)]; omega
            have e3' : IntKind.u64.wrap (b : Int) = (b : Int) := by rw [IntKind.wrap_u64, hb.out]; omega
            have hb01 : b = 0 ∨ b = 1 := by rw [hb.out]; omega
            have hbp : Hid (root1 n % 2 = b) := Lib.hid (by rw [← hpar.out, hb.out])
            clear hcell
            obtain ⟨cR, hcR⟩ : ∃ c, Hid (c = limF (root n)) := ⟨_, Lib.hid rfl⟩
            have oR : Hid ((Tryd.prog.info? 35).map (·.size) = some cR.size ∧ cR.all (·.oneCell') = true ∧ z.size = cR.size) := by rw [hcR.out, hz.out]; exact Lib.hid (limF0_ok _)
            rcases hb01 with hb0 | hb0
            · have e1 : Hid (c1 = cR) := by
                rw [hc1.out, hcR.out, HRR.out, if_neg (by rw [hbp.out, hb0]; omega)]; exact Lib.hid rfl
              clear hbp hb
              subst hb0
              have HF := Lib.hid (H8.out.1.snd c1)
              go_wp2_with (first | (refine wpList_load_row rfl 35 (.tmp 4) rfl g4 rfl 35 c1 (0, 0) _ H8.out.2.1 Tryd.underlying35 rfl o1.out.1 ?_) |
                (refine wpList_store_row rfl 35 (.tmp 2) (.tmp 30) rfl (w.heap.size + 1) c1 rfl rfl 35 z H8.out.1.2.1 o1.out.1 o1.out.2.2 o1.out.2.1 ?_))
              refine bodyPost_ret (v := .tuple #[.agg c1, .bool true]) ?_ rfl ⟨by rw [e1.out, hcR.out, hd.out], HF.out.2.2⟩
              exact results_row_tmp Tryd.results62 _ _ (w.heap.size + 1) 35 _ _ _ _ rfl rfl HF.out.2.1 Tryd.underlying35 o1.out.1
            · have e1 : Hid (cN = cR) := by
                have ho : root1 n % 2 = 1 := by rw [hbp.out, hb0]
                rw [hcN.out, hcR.out, HRR.out, if_pos ho, odd_neg2 HR1l.out ho]; exact Lib.hid rfl
              clear hbp hb
              subst hb0
              go_wp2_with (first | (refine wpList_load_row rfl 35 (.tmp 4) rfl g4 rfl 35 c1 (0, 0) _ H8.out.2.1 Tryd.underlying35 rfl o1.out.1 ?_))
              refine (C9.out _).mono ?_
              rintro e w5 ⟨rfl, hb⟩
              have H9 := Lib.hid (H8.out.next hb)
              have HA := Lib.hid (H9.out.third cN)
              have HF := Lib.hid (HA.out.1.snd cN)
              clear hb
              go_wp2_with (first | (refine wpList_store_row rfl 35 (.tmp 4) (.tmp 29) rfl g4 cN rfl rfl 35 c1 H9.out.2.1 oN.out.1 hsz.out.2 oN.out.2.1 ?_) |
                (refine wpList_load_row rfl 35 (.tmp 4) rfl g4 rfl 35 cN (0, 0) _ HA.out.2.1 Tryd.underlying35 rfl oN.out.1 ?_) |
                (refine wpList_store_row rfl 35 (.tmp 2) (.tmp 30) rfl (w.heap.size + 1) cN rfl rfl 35 z HA.out.1.2.1 oN.out.1 oN.out.2.2 oN.out.2.1 ?_))
              refine bodyPost_ret (v := .tuple #[.agg cN, .bool true]) ?_ rfl ⟨by rw [e1.out, hcR.out, hd.out], HF.out.2.2⟩
              exact results_row_tmp Tryd.results62 _ _ (w.heap.size + 1) 35 _ _ _ _ rfl rfl HF.out.2.1 Tryd.underlying35 oN.out.1
end Go.Proofs.YtjiadbaaggifpaaDoor
end

section
set_option linter.unusedVariables false
set_option linter.unusedSimpArgs false
namespace Go.Proofs.YtjiadbaaggifpaaDoor
open Go Go.Proofs Go.RowKit F5

def cF (a : Fp) : Array Value := limF a.val
theorem fp_256 (a : Fp) : a.val < 2 ^ 256 := Nat.lt_trans a.isLt (by decide)
theorem cF_size (a : Fp) : (cF a).size = 16 := limF_size _
theorem cF_ok (a : Fp) : (Tryd.prog.info? 35).map (·.size) = some (cF a).size ∧ (cF a).all (·.oneCell') = true := limF_ok3 _
theorem cF_sz (a b : Fp) : (cF a).size = (cF b).size := limF_sz _ _
theorem rOf (n : Nat) (hn : n < 2 ^ 32) (a : Fp) (h : a.val = n) (i : Int) (hi : i = n) (w : World) : Calls Tryd.prog 36 #[.int .u64 i] w fun e w' => e = .returned (.agg (cF a)) ∧ Below w.heap.size w w' := by
  subst hi
  rw [cF, h]
  exact refOf_any n (Nat.lt_trans hn (by decide)) w
theorem rMul (a b : Fp) (w : World) : Calls Tryd.prog 49 #[.agg (cF a), .agg (cF b)] w fun e w' => e = .returned (.agg (cF (a * b))) ∧ Below w.heap.size w w' := by
  have := refMul_any a.val b.val (fp_256 a) (fp_256 b) w
  rwa [← fp_mul] at this
theorem rAdd (a b : Fp) (w : World) : Calls Tryd.prog 60 #[.agg (cF a), .agg (cF b)] w fun e w' => e = .returned (.agg (cF (a + b))) ∧ Below w.heap.size w w' := by
  have := refAdd_any a.val b.val (fp_256 a) (fp_256 b) w
  rwa [← fp_add] at this
theorem rSub (a b : Fp) (w : World) : Calls Tryd.prog 61 #[.agg (cF a), .agg (cF b)] w fun e w' => e = .returned (.agg (cF (a - b))) ∧ Below w.heap.size w w' := by
  have := refSub_any a.val b.val (fp_256 a) b.isLt w
  rwa [show (a.val + (P - b.val) % P) % P = (a - b).val by rw [Fin.sub_def]; show _ = (P - b.val + a.val) % P; rw [Nat.add_mod_mod, Nat.add_comm]] at this
theorem rNeg (a : Fp) (w : World) : Calls Tryd.prog 35 #[.agg (cF a)] w fun e w' => e = .returned (.agg (cF (0 - a))) ∧ Below w.heap.size w w' := by
  have := refNeg_any a.val a.isLt w
  rwa [show (P - a.val) % P = (0 - a).val by rw [Fin.sub_def]; show _ = (P - a.val + 0) % P; rw [Nat.add_zero]] at this
theorem rInv (a : Fp) (w : World) : Calls Tryd.prog 50 #[.agg (cF a)] w fun e w' => e = .returned (.agg (cF (finv a))) ∧ Below w.heap.size w w' := refInv_any a.val w a.isLt
theorem rRoot (a : Fp) (w : World) : Calls Tryd.prog 62 #[.agg (cF a)] w fun e w' => e = .returned (.tuple #[.agg (cF (rootF a)), .bool (decide (hasRoot a.val))]) ∧ Below w.heap.size w w' := refRoot_any a.val w a.isLt
theorem zeroF (W : World) : (zeroValue 35).run Tryd.prog W = .ok (.agg (cF 0)) W := by
  show _ = Result.ok (Value.agg (limF 0)) W
  rw [← zero16]; exact (zero_of_info (n := 16) (by kernel_rfl)).1 W
end Go.Proofs.YtjiadbaaggifpaaDoor
end

section
set_option linter.unusedVariables false
set_option linter.unusedSimpArgs false
namespace Go.Proofs.YtjiadbaaggifpaaDoor
open Go Go.Proofs Go.RowKit F5

theorem fv (n : Nat) (a : Fp) (h : decide (a.val = n) = true) : a.val = n := by simpa using h
set_option maxHeartbeats 4000000 in
set_option maxRecDepth 100000 in
theorem refD_any (w : World) : Calls Tryd.prog 45 #[] w fun e w' => e = .returned (.agg (cF dE)) ∧ Below w.heap.size w w' := by
  obtain ⟨z, hz⟩ : ∃ z, Hid (z = cF 0) := ⟨_, Lib.hid rfl⟩
  have hz0 : ∀ W, (zeroValue 35).run Tryd.prog W = .ok (.agg z) W := by rw [hz.out]; exact zeroF
  obtain ⟨a, ha⟩ : ∃ a : Fp, Hid (a = 121665) := ⟨_, Lib.hid rfl⟩
  obtain ⟨b, hb⟩ : ∃ a : Fp, Hid (a = 121666) := ⟨_, Lib.hid rfl⟩
  have C1 : Hid (∀ V, Calls Tryd.prog 36 #[.int .u64 121665] V fun e w' => e = .returned (.agg (cF a)) ∧ Below V.heap.size V w') := Lib.hid fun V => rOf 121665 (by decide) a (by rw [ha.out]; exact fv _ _ (by decide)) _ rfl V
  have C2 : Hid (∀ V, Calls Tryd.prog 36 #[.int .u64 121666] V fun e w' => e = .returned (.agg (cF b)) ∧ Below V.heap.size V w') := Lib.hid fun V => rOf 121666 (by decide) b (by rw [hb.out]; exact fv _ _ (by decide)) _ rfl V
  have hd : Hid (dE = (0 - a) * finv b) := by rw [ha.out, hb.out]; exact Lib.hid dE_def
  have oz : Hid (z.size = (cF ((0 - a) * finv b)).size) := Lib.hid (by rw [hz.out]; exact cF_sz _ _)
  have X0 := Lib.hid (Blk.new w 35 z)
  have HB := Lib.hid ((Below.refl w.heap.size w).alloc (Nat.le_refl _) (.cells z 35))
  rw [hd.out]
  clear hz hd ha hb
  go_enter Tryd.func45, Tryd.ntmps45
  go_wp2_with fail
  generalize w.alloc (.cells z 35) = W at *
  refine (C1.out _).mono ?_
  rintro e w1 ⟨rfl, hb⟩
  have X0 := Lib.hid (X0.out.old hb)
  have HB := Lib.hid (HB.out.trans (hb.mono HB.out.size))
  clear hb
  go_wp2_with fail
  refine (rNeg _ _).mono ?_
  rintro e w2 ⟨rfl, hb⟩
  have X0 := Lib.hid (X0.out.old hb)
  have HB := Lib.hid (HB.out.trans (hb.mono HB.out.size))
  clear hb
  go_wp2_with fail
  refine (C2.out _).mono ?_
  rintro e w3 ⟨rfl, hb⟩
  have X0 := Lib.hid (X0.out.old hb)
  have HB := Lib.hid (HB.out.trans (hb.mono HB.out.size))
  clear hb
  go_wp2_with fail
  refine (rInv _ _).mono ?_
  rintro e w4 ⟨rfl, hb⟩
  have X0 := Lib.hid (X0.out.old hb)
  have HB := Lib.hid (HB.out.trans (hb.mono HB.out.size))
  clear hb
  go_wp2_with fail
  refine (rMul _ _ _).mono ?_
  rintro e w5 ⟨rfl, hb⟩
  have X0 := Lib.hid (X0.out.old hb)
  have HB := Lib.hid (HB.out.trans (hb.mono HB.out.size))
  clear hb
  have X1 := Lib.hid (X0.out.row (cF ((0 - a) * finv b)))
  have HF := Lib.hid (below_row HB.out (Nat.le_refl _) (cF ((0 - a) * finv b)))
  go_wp2_with (first | (refine wpList_store_row rfl 35 (.tmp 0) (.tmp 5) rfl w.heap.size _ rfl rfl 35 z X0.out (cF_ok _).1 oz.out (cF_ok _).2 ?_))
  refine bodyPost_ret (v := .agg (cF ((0 - a) * finv b))) ?_ rfl ⟨rfl, HF.out⟩
  exact results_cell_row Tryd.results45 _ _ w.heap.size 35 _ (0, 0) _ rfl X1.out Tryd.underlying35 rfl (cF_ok _).1
end Go.Proofs.YtjiadbaaggifpaaDoor
end

section
set_option linter.unusedVariables false
set_option linter.unusedSimpArgs false
namespace Go.Proofs.YtjiadbaaggifpaaDoor
open Go Go.Proofs Go.RowKit F5

set_option maxHeartbeats 8000000 in
set_option maxRecDepth 100000 in
theorem refXof_any (y : Fp) (w : World) : Calls Tryd.prog 34 #[.agg (cF y)] w fun e w' => e = .returned (.tuple #[.agg (cF (rootF (xsq y))), .bool (decide (hasRoot (xsq y).val))]) ∧ Below w.heap.size w w' := by
  obtain ⟨z, hz⟩ : ∃ z, Hid (z = cF 0) := ⟨_, Lib.hid rfl⟩
  have hz0 : ∀ W, (zeroValue 35).run Tryd.prog W = .ok (.agg z) W := by rw [hz.out]; exact zeroF
  have oz : Hid (∀ a : Fp, z.size = (cF a).size) := Lib.hid (fun a => by rw [hz.out]; exact cF_sz _ _)
  obtain ⟨one, h1⟩ : ∃ a : Fp, Hid (a = 1) := ⟨_, Lib.hid rfl⟩
  have C1 : Hid (∀ V, Calls Tryd.prog 36 #[.int .u64 1] V fun e w' => e = .returned (.agg (cF one)) ∧ Below V.heap.size V w') := Lib.hid fun V => rOf 1 (by decide) one (by rw [h1.out]; exact fv _ _ (by decide)) _ rfl V
  have hx : Hid (xsq y = (y * y - one) * finv (dE * (y * y) + one)) := Lib.hid (by rw [h1.out]; rfl)
  rw [hx.out]
  obtain ⟨yy, hyy⟩ : ∃ a : Fp, Hid (a = y * y) := ⟨_, Lib.hid rfl⟩
  have CM : Hid (∀ V, Calls Tryd.prog 49 #[.agg (cF y), .agg (cF y)] V fun e w' => e = .returned (.agg (cF yy)) ∧ Below V.heap.size V w') := Lib.hid fun V => by rw [hyy.out]; exact rMul y y V
  rw [← hyy.out]
  obtain ⟨ov, hov⟩ : ∃ a : Fp, Hid (a = dE * yy + one) := ⟨_, Lib.hid rfl⟩
  have CA : Hid (∀ V, Calls Tryd.prog 60 #[.agg (cF (dE * yy)), .agg (cF one)] V fun e w' => e = .returned (.agg (cF ov)) ∧ Below V.heap.size V w') := Lib.hid fun V => by rw [hov.out]; exact rAdd _ _ V
  rw [← hov.out]
  obtain ⟨s, hs⟩ : ∃ a : Fp, Hid (a = (yy - one) * finv ov) := ⟨_, Lib.hid rfl⟩
  have CS : Hid (∀ V, Calls Tryd.prog 49 #[.agg (cF (yy - one)), .agg (cF (finv ov))] V fun e w' => e = .returned (.agg (cF s)) ∧ Below V.heap.size V w') := Lib.hid fun V => by rw [hs.out]; exact rMul _ _ V
  rw [← hs.out]
  obtain ⟨r, hr⟩ : ∃ a : Fp, Hid (a = rootF s) := ⟨_, Lib.hid rfl⟩
  obtain ⟨b, hb⟩ : ∃ b, Hid (b = decide (hasRoot s.val)) := ⟨_, Lib.hid rfl⟩
  have CR : Hid (∀ V, Calls Tryd.prog 62 #[.agg (cF s)] V fun e w' => e = .returned (.tuple #[.agg (cF r), .bool b]) ∧ Below V.heap.size V w') := Lib.hid fun V => by rw [hr.out, hb.out]; exact rRoot s V
  rw [← hr.out, ← hb.out]
  clear hz h1 hx hyy hov hs hr hb
  have h2 := TwoF.new w (cF y) z
  go_enter Tryd.func34, Tryd.ntmps34
  go_upto_region 1 with fail
  generalize (w.alloc (.cells (cF y) 35)).alloc (.cells z 35) = W at *
  have X1 := Lib.hid h2.1
  have X2 := Lib.hid h2.2.1
  have HB := Lib.hid h2.2.2
  have hlt : Hid (w.heap.size + 1 < W.heap.size) := Lib.hid h2.lt
  clear h2
  go_wp2_with fail
  refine (C1.out _).mono ?_
  rintro e w1 ⟨rfl, hb⟩
  have X1 := Lib.hid ((X1.out.old hb).alloc (.cells (cF one) 35))
  have X2 := Lib.hid ((X2.out.old hb).alloc (.cells (cF one) 35))
  have HB := Lib.hid ((HB.out.trans (hb.mono HB.out.size)).alloc (HB.out.trans (hb.mono HB.out.size)).size (.cells (cF one) 35))
  have X4 := Lib.hid (Blk.new w1 35 (cF one))
  have G4 : Hid (w.heap.size + 1 < w1.heap.size) := Lib.hid (Nat.lt_of_lt_of_le hlt.out hb.size)
  clear hb hlt
  go_upto_region 2 with (first | (refine wpList_store_row rfl 35 (.tmp 4) (.tmp 7) rfl w1.heap.size (cF one) rfl rfl 35 _ (heap_alloc_new w1 _) (cF_ok _).1 (oz.out _) (cF_ok _).2 ?_; rw [setRow_alloc1]))
  generalize w1.alloc (.cells (cF one) 35) = W1 at *
  generalize w1.heap.size = g4 at *
  go_upto_region 3 with (first | (refine wpList_load_row rfl 35 (.tmp 1) rfl w.heap.size rfl 35 (cF y) (0, 0) _ X1.out Tryd.underlying35 rfl (cF_ok _).1 ?_))
  refine (CM.out _).mono ?_
  rintro e w2 ⟨rfl, hb⟩
  have X2 := Lib.hid ((X2.out.old hb).alloc (.cells (cF yy) 35))
  have G5 : Hid (w.heap.size + 1 < w2.heap.size) := Lib.hid (Nat.lt_of_lt_of_le (Nat.lt_trans G4.out X4.out.lt) hb.size)
  have X4 := Lib.hid ((X4.out.old hb).alloc (.cells (cF yy) 35))
  have HB := Lib.hid ((HB.out.trans (hb.mono HB.out.size)).alloc (HB.out.trans (hb.mono HB.out.size)).size (.cells (cF yy) 35))
  have X5 := Lib.hid (Blk.new w2 35 (cF yy))
  clear hb X1
  go_upto_region 3 with (first | (refine wpList_store_row rfl 35 (.tmp 5) (.tmp 10) rfl w2.heap.size (cF yy) rfl rfl 35 _ (heap_alloc_new w2 _) (cF_ok _).1 (oz.out _) (cF_ok _).2 ?_; rw [setRow_alloc1]))
  generalize w2.alloc (.cells (cF yy) 35) = W2 at *
  generalize w2.heap.size = g5 at *
  (try simp only [Act.put, List.setIfInBounds_toArray, List.set_cons_zero, List.set_cons_succ])
  go_cut [6] (fun v6 wx => ∃ g6, v6 = .pointer (some ⟨g6, 0, none⟩) ∧ Blk wx g6 35 (cF ov) ∧ Blk wx (w.heap.size + 1) 35 z ∧ Blk wx g4 35 (cF one) ∧ Blk wx g5 35 (cF yy) ∧ Below w.heap.size w wx ∧ w.heap.size + 1 < g6)
  case first =>
    refine wp_region_held_drew (S := fun V => Below W2.heap.size W2 V) (by kernel_rfl) ((Below.refl _ _).drew) (fun hHeld => ?_)
    have HBW2 := Lib.hid ((Below.refl W2.heap.size W2).drew)
    generalize W2.drew = VW2 at *
    refine' wpAnyH_take (i := 1) (oi := _) (v := .agg (cF yy)) ?hit1 ?hst1 ?hft1 ?hrt1 ?hQt1 ?hyt1 ?hSt1 ?_
    case hit1 => (simp only [List.getElem?_toArray, List.getElem?_cons_succ, List.getElem?_cons_zero]; rfl)
    case hst1 => kernel_rfl
    case hft1 => kernel_rfl
    case hrt1 => kernel_rfl
    case hQt1 => exact fun _ _ _ h => h
    case hSt1 => assumption
    case hyt1 =>
      refine Or.inl ⟨by rfl, ?_⟩
      intro W hS
      exact quiet_load_row 35 (.tmp 5) _ rfl 35 (cF yy) _ (X5.out.old hS) Tryd.underlying35 rfl (cF_ok _).1 rfl
    (try simp only [Act.put, List.setIfInBounds_toArray, List.set_cons_zero, List.set_cons_succ])
    refine' wpAnyH_take (i := 3) (oi := _) (v := .agg (cF one)) ?hit2 ?hst2 ?hft2 ?hrt2 ?hQt2 ?hyt2 ?hSt2 ?_
    case hit2 => (simp only [List.getElem?_toArray, List.getElem?_cons_succ, List.getElem?_cons_zero]; rfl)
    case hst2 => kernel_rfl
    case hft2 => kernel_rfl
    case hrt2 => kernel_rfl
    case hQt2 => exact fun _ _ _ h => h
    case hSt2 => assumption
    case hyt2 =>
      refine Or.inl ⟨by rfl, ?_⟩
      intro W hS
      exact quiet_load_row 35 (.tmp 4) _ rfl 35 (cF one) _ (X4.out.old hS) Tryd.underlying35 rfl (cF_ok _).1 rfl
    (try simp only [Act.put, List.setIfInBounds_toArray, List.set_cons_zero, List.set_cons_succ])
    refine wpAnyH_ready (rs := [0, 5]) (by kernel_rfl) (by simp) ?_
    refine' (AllReadyH.cons (o := _) ?hir3_0 (fun K hK => ?br3_0) (AllReadyH.cons (o := _) ?hir3_5 (fun K hK => ?br3_5) AllReadyH.nil))
    case hir3_0 => (simp only [List.getElem?_toArray, List.getElem?_cons_succ, List.getElem?_cons_zero]; rfl)
    case hir3_5 => (simp only [List.getElem?_toArray, List.getElem?_cons_succ, List.getElem?_cons_zero]; rfl)
    case br3_0 =>
      go_simp
      refine (refD_any _).mono ?_
      rintro e w4 ⟨rfl, hb4⟩
      have H4 := Lib.hid (HBW2.out.trans (hb4.mono HBW2.out.size))
      clear hb4
      go_wp2_with fail
      refine hK.out _ _ ?_ (fun hHeld => ?_)
      exact H4.out
      clear hK K
      (try simp only [Act.put, List.setIfInBounds_toArray, List.set_cons_zero, List.set_cons_succ])
      refine wpAnyH_ready (rs := [2, 5]) (by kernel_rfl) (by simp) ?_
      refine' (AllReadyH.cons (o := _) ?hir5_2 (fun K hK => ?br5_2) (AllReadyH.cons (o := _) ?hir5_5 (fun K hK => ?br5_5) AllReadyH.nil))
      case hir5_2 => (simp only [List.getElem?_toArray, List.getElem?_cons_succ, List.getElem?_cons_zero]; rfl)
      case hir5_5 => (simp only [List.getElem?_toArray, List.getElem?_cons_succ, List.getElem?_cons_zero]; rfl)
      case br5_2 =>
        go_simp
        refine (rMul _ _ _).mono ?_
        rintro e w6 ⟨rfl, hb6⟩
        have H6 := Lib.hid (H4.out.trans (hb6.mono H4.out.size))
        clear hb6
        go_wp2_with fail
        refine hK.out _ _ ?_ (fun hHeld => ?_)
        exact H6.out
        clear hK K
        (try simp only [Act.put, List.setIfInBounds_toArray, List.set_cons_zero, List.set_cons_succ])
        refine wpAnyH_ready (rs := [4, 5]) (by kernel_rfl) (by simp) ?_
        refine' (AllReadyH.cons (o := _) ?hir7_4 (fun K hK => ?br7_4) (AllReadyH.cons (o := _) ?hir7_5 (fun K hK => ?br7_5) AllReadyH.nil))
        case hir7_4 => (simp only [List.getElem?_toArray, List.getElem?_cons_succ, List.getElem?_cons_zero]; rfl)
        case hir7_5 => (simp only [List.getElem?_toArray, List.getElem?_cons_succ, List.getElem?_cons_zero]; rfl)
        case br7_4 =>
          go_simp
          refine (CA.out _).mono ?_
          rintro e w8 ⟨rfl, hb8⟩
          have H8 := Lib.hid (H6.out.trans (hb8.mono H6.out.size))
          clear hb8
          go_wp2_with fail
          refine hK.out _ _ ?_ (fun hHeld => ?_)
          exact H8.out
          clear hK K
          (try simp only [Act.put, List.setIfInBounds_toArray, List.set_cons_zero, List.set_cons_succ])
          refine wpAnyH_ready (rs := [5]) (by kernel_rfl) (by simp) ?_
          refine' (AllReadyH.cons (o := _) ?hir9_5 (fun K hK => ?br9_5) AllReadyH.nil)
          case hir9_5 => (simp only [List.getElem?_toArray, List.getElem?_cons_succ, List.getElem?_cons_zero]; rfl)
          case br9_5 =>
            go_simp
            refine hK.out _ _ ?_ (fun hHeld => ?_)
            · exact (H8.out.alloc H8.out.size _)
            have H10 := Lib.hid (H8.out.alloc H8.out.size (.cells z 35))
            have N6_10 := Lib.hid (alloc_new H8.out 35 z)
            have G6_10 := Lib.hid H8.out.size
            clear hK K
            (try simp only [Act.put, List.setIfInBounds_toArray, List.set_cons_zero, List.set_cons_succ])
            refine wpAnyH_ready (rs := [6]) (by kernel_rfl) (by simp) ?_
            refine' (AllReadyH.cons (o := _) ?hir11_6 (fun K hK => ?br11_6) AllReadyH.nil)
            case hir11_6 => (simp only [List.getElem?_toArray, List.getElem?_cons_succ, List.getElem?_cons_zero]; rfl)
            case br11_6 =>
              refine step_of_wp rfl ?_
              refine wp_store_row 35 (.tmp 6) (.tmp 15) rfl _ (cF ov) rfl rfl 35 _ N6_10.out (cF_ok _).1 (oz.out _) (cF_ok _).2 ?_
              refine hK.out _ _ ?_ (fun hHeld => ?_)
              exact below_row H10.out G6_10.out _
              clear hK K
              (try simp only [Act.put, List.setIfInBounds_toArray, List.set_cons_zero, List.set_cons_succ])
              refine wpAnyH_done (by kernel_rfl) ?_ _
              have L2 := Nat.lt_of_lt_of_le X2.out.lt G6_10.out
              have L4 := Nat.lt_of_lt_of_le X4.out.lt G6_10.out
              have L5 := Nat.lt_of_lt_of_le X5.out.lt G6_10.out
              have HF := Lib.hid (below_row (HB.out.trans (H10.out.mono HB.out.size)) (Nat.le_of_lt (Nat.lt_of_succ_lt L2)) (cF ov))
              have F6 := Lib.hid (N6_10.out.row (cF ov))
              have F2 := Lib.hid ((X2.out.old H10.out).rowFar (Nat.ne_of_lt L2) (cF ov))
              have F4 := Lib.hid ((X4.out.old H10.out).rowFar (Nat.ne_of_lt L4) (cF ov))
              have F5 := Lib.hid ((X5.out.old H10.out).rowFar (Nat.ne_of_lt L5) (cF ov))
              have L2 := Lib.hid L2
              clear hHeld L4 L5
              go_wp2_with fail
              go_meet
              exact ⟨_, rfl, F6.out, F2.out, F4.out, F5.out, HF.out, L2.out⟩
        case br7_5 =>
          go_simp
          refine hK.out _ _ ?_ (fun hHeld => ?_)
          · exact (H6.out.alloc H6.out.size _)
          have H13 := Lib.hid (H6.out.alloc H6.out.size (.cells z 35))
          have N6_13 := Lib.hid (alloc_new H6.out 35 z)
          have G6_13 := Lib.hid H6.out.size
          clear hK K
          (try simp only [Act.put, List.setIfInBounds_toArray, List.set_cons_zero, List.set_cons_succ])
          refine wpAnyH_ready (rs := [4]) (by kernel_rfl) (by simp) ?_
          refine' (AllReadyH.cons (o := _) ?hir14_4 (fun K hK => ?br14_4) AllReadyH.nil)
          case hir14_4 => (simp only [List.getElem?_toArray, List.getElem?_cons_succ, List.getElem?_cons_zero]; rfl)
          case br14_4 =>
            go_simp
            refine (CA.out _).mono ?_
            rintro e w15 ⟨rfl, hb15⟩
            have H15 := Lib.hid (H13.out.trans (hb15.mono H13.out.size))
            have N6_15 := Lib.hid (N6_13.out.old hb15)
            clear hb15
            go_wp2_with fail
            refine hK.out _ _ ?_ (fun hHeld => ?_)
            exact H15.out
            clear hK K
            (try simp only [Act.put, List.setIfInBounds_toArray, List.set_cons_zero, List.set_cons_succ])
            refine wpAnyH_ready (rs := [6]) (by kernel_rfl) (by simp) ?_
            refine' (AllReadyH.cons (o := _) ?hir16_6 (fun K hK => ?br16_6) AllReadyH.nil)
            case hir16_6 => (simp only [List.getElem?_toArray, List.getElem?_cons_succ, List.getElem?_cons_zero]; rfl)
            case br16_6 =>
              refine step_of_wp rfl ?_
              refine wp_store_row 35 (.tmp 6) (.tmp 15) rfl _ (cF ov) rfl rfl 35 _ N6_15.out (cF_ok _).1 (oz.out _) (cF_ok _).2 ?_
              refine hK.out _ _ ?_ (fun hHeld => ?_)
              exact below_row H15.out G6_13.out _
              clear hK K
              (try simp only [Act.put, List.setIfInBounds_toArray, List.set_cons_zero, List.set_cons_succ])
              refine wpAnyH_done (by kernel_rfl) ?_ _
              have L2 := Nat.lt_of_lt_of_le X2.out.lt G6_13.out
              have L4 := Nat.lt_of_lt_of_le X4.out.lt G6_13.out
              have L5 := Nat.lt_of_lt_of_le X5.out.lt G6_13.out
              have HF := Lib.hid (below_row (HB.out.trans (H15.out.mono HB.out.size)) (Nat.le_of_lt (Nat.lt_of_succ_lt L2)) (cF ov))
              have F6 := Lib.hid (N6_15.out.row (cF ov))
              have F2 := Lib.hid ((X2.out.old H15.out).rowFar (Nat.ne_of_lt L2) (cF ov))
              have F4 := Lib.hid ((X4.out.old H15.out).rowFar (Nat.ne_of_lt L4) (cF ov))
              have F5 := Lib.hid ((X5.out.old H15.out).rowFar (Nat.ne_of_lt L5) (cF ov))
              have L2 := Lib.hid L2
              clear hHeld L4 L5
              go_wp2_with fail
              go_meet
              exact ⟨_, rfl, F6.out, F2.out, F4.out, F5.out, HF.out, L2.out⟩
      case br5_5 =>
        go_simp
        refine hK.out _ _ ?_ (fun hHeld => ?_)
        · exact (H4.out.alloc H4.out.size _)
        have H18 := Lib.hid (H4.out.alloc H4.out.size (.cells z 35))
        have N6_18 := Lib.hid (alloc_new H4.out 35 z)
        have G6_18 := Lib.hid H4.out.size
        clear hK K
        (try simp only [Act.put, List.setIfInBounds_toArray, List.set_cons_zero, List.set_cons_succ])
        refine wpAnyH_ready (rs := [2]) (by kernel_rfl) (by simp) ?_
        refine' (AllReadyH.cons (o := _) ?hir19_2 (fun K hK => ?br19_2) AllReadyH.nil)
        case hir19_2 => (simp only [List.getElem?_toArray, List.getElem?_cons_succ, List.getElem?_cons_zero]; rfl)
        case br19_2 =>
          go_simp
          refine (rMul _ _ _).mono ?_
          rintro e w20 ⟨rfl, hb20⟩
          have H20 := Lib.hid (H18.out.trans (hb20.mono H18.out.size))
          have N6_20 := Lib.hid (N6_18.out.old hb20)
          clear hb20
          go_wp2_with fail
          refine hK.out _ _ ?_ (fun hHeld => ?_)
          exact H20.out
          clear hK K
          (try simp only [Act.put, List.setIfInBounds_toArray, List.set_cons_zero, List.set_cons_succ])
          refine wpAnyH_ready (rs := [4]) (by kernel_rfl) (by simp) ?_
          refine' (AllReadyH.cons (o := _) ?hir21_4 (fun K hK => ?br21_4) AllReadyH.nil)
          case hir21_4 => (simp only [List.getElem?_toArray, List.getElem?_cons_succ, List.getElem?_cons_zero]; rfl)
          case br21_4 =>
            go_simp
            refine (CA.out _).mono ?_
            rintro e w22 ⟨rfl, hb22⟩
            have H22 := Lib.hid (H20.out.trans (hb22.mono H20.out.size))
            have N6_22 := Lib.hid (N6_20.out.old hb22)
            clear hb22
            go_wp2_with fail
            refine hK.out _ _ ?_ (fun hHeld => ?_)
            exact H22.out
            clear hK K
            (try simp only [Act.put, List.setIfInBounds_toArray, List.set_cons_zero, List.set_cons_succ])
            refine wpAnyH_ready (rs := [6]) (by kernel_rfl) (by simp) ?_
            refine' (AllReadyH.cons (o := _) ?hir23_6 (fun K hK => ?br23_6) AllReadyH.nil)
            case hir23_6 => (simp only [List.getElem?_toArray, List.getElem?_cons_succ, List.getElem?_cons_zero]; rfl)
            case br23_6 =>
              refine step_of_wp rfl ?_
              refine wp_store_row 35 (.tmp 6) (.tmp 15) rfl _ (cF ov) rfl rfl 35 _ N6_22.out (cF_ok _).1 (oz.out _) (cF_ok _).2 ?_
              refine hK.out _ _ ?_ (fun hHeld => ?_)
              exact below_row H22.out G6_18.out _
              clear hK K
              (try simp only [Act.put, List.setIfInBounds_toArray, List.set_cons_zero, List.set_cons_succ])
              refine wpAnyH_done (by kernel_rfl) ?_ _
              have L2 := Nat.lt_of_lt_of_le X2.out.lt G6_18.out
              have L4 := Nat.lt_of_lt_of_le X4.out.lt G6_18.out
              have L5 := Nat.lt_of_lt_of_le X5.out.lt G6_18.out
              have HF := Lib.hid (below_row (HB.out.trans (H22.out.mono HB.out.size)) (Nat.le_of_lt (Nat.lt_of_succ_lt L2)) (cF ov))
              have F6 := Lib.hid (N6_22.out.row (cF ov))
              have F2 := Lib.hid ((X2.out.old H22.out).rowFar (Nat.ne_of_lt L2) (cF ov))
              have F4 := Lib.hid ((X4.out.old H22.out).rowFar (Nat.ne_of_lt L4) (cF ov))
              have F5 := Lib.hid ((X5.out.old H22.out).rowFar (Nat.ne_of_lt L5) (cF ov))
              have L2 := Lib.hid L2
              clear hHeld L4 L5
              go_wp2_with fail
              go_meet
              exact ⟨_, rfl, F6.out, F2.out, F4.out, F5.out, HF.out, L2.out⟩
    case br3_5 =>
      go_simp
      refine hK.out _ _ ?_ (fun hHeld => ?_)
      · exact (HBW2.out.alloc HBW2.out.size _)
      have H25 := Lib.hid (HBW2.out.alloc HBW2.out.size (.cells z 35))
      have N6_25 := Lib.hid (alloc_new HBW2.out 35 z)
      have G6_25 := Lib.hid HBW2.out.size
      clear hK K
      (try simp only [Act.put, List.setIfInBounds_toArray, List.set_cons_zero, List.set_cons_succ])
      refine wpAnyH_ready (rs := [0]) (by kernel_rfl) (by simp) ?_
      refine' (AllReadyH.cons (o := _) ?hir26_0 (fun K hK => ?br26_0) AllReadyH.nil)
      case hir26_0 => (simp only [List.getElem?_toArray, List.getElem?_cons_succ, List.getElem?_cons_zero]; rfl)
      case br26_0 =>
        go_simp
        refine (refD_any _).mono ?_
        rintro e w27 ⟨rfl, hb27⟩
        have H27 := Lib.hid (H25.out.trans (hb27.mono H25.out.size))
        have N6_27 := Lib.hid (N6_25.out.old hb27)
        clear hb27
        go_wp2_with fail
        refine hK.out _ _ ?_ (fun hHeld => ?_)
        exact H27.out
        clear hK K
        (try simp only [Act.put, List.setIfInBounds_toArray, List.set_cons_zero, List.set_cons_succ])
        refine wpAnyH_ready (rs := [2]) (by kernel_rfl) (by simp) ?_
        refine' (AllReadyH.cons (o := _) ?hir28_2 (fun K hK => ?br28_2) AllReadyH.nil)
        case hir28_2 => (simp only [List.getElem?_toArray, List.getElem?_cons_succ, List.getElem?_cons_zero]; rfl)
        case br28_2 =>
          go_simp
          refine (rMul _ _ _).mono ?_
          rintro e w29 ⟨rfl, hb29⟩
          have H29 := Lib.hid (H27.out.trans (hb29.mono H27.out.size))
          have N6_29 := Lib.hid (N6_27.out.old hb29)
          clear hb29
          go_wp2_with fail
          refine hK.out _ _ ?_ (fun hHeld => ?_)
          exact H29.out
          clear hK K
          (try simp only [Act.put, List.setIfInBounds_toArray, List.set_cons_zero, List.set_cons_succ])
          refine wpAnyH_ready (rs := [4]) (by kernel_rfl) (by simp) ?_
          refine' (AllReadyH.cons (o := _) ?hir30_4 (fun K hK => ?br30_4) AllReadyH.nil)
          case hir30_4 => (simp only [List.getElem?_toArray, List.getElem?_cons_succ, List.getElem?_cons_zero]; rfl)
          case br30_4 =>
            go_simp
            refine (CA.out _).mono ?_
            rintro e w31 ⟨rfl, hb31⟩
            have H31 := Lib.hid (H29.out.trans (hb31.mono H29.out.size))
            have N6_31 := Lib.hid (N6_29.out.old hb31)
            clear hb31
            go_wp2_with fail
            refine hK.out _ _ ?_ (fun hHeld => ?_)
            exact H31.out
            clear hK K
            (try simp only [Act.put, List.setIfInBounds_toArray, List.set_cons_zero, List.set_cons_succ])
            refine wpAnyH_ready (rs := [6]) (by kernel_rfl) (by simp) ?_
            refine' (AllReadyH.cons (o := _) ?hir32_6 (fun K hK => ?br32_6) AllReadyH.nil)
            case hir32_6 => (simp only [List.getElem?_toArray, List.getElem?_cons_succ, List.getElem?_cons_zero]; rfl)
            case br32_6 =>
              refine step_of_wp rfl ?_
              refine wp_store_row 35 (.tmp 6) (.tmp 15) rfl _ (cF ov) rfl rfl 35 _ N6_31.out (cF_ok _).1 (oz.out _) (cF_ok _).2 ?_
              refine hK.out _ _ ?_ (fun hHeld => ?_)
              exact below_row H31.out G6_25.out _
              clear hK K
              (try simp only [Act.put, List.setIfInBounds_toArray, List.set_cons_zero, List.set_cons_succ])
              refine wpAnyH_done (by kernel_rfl) ?_ _
              have L2 := Nat.lt_of_lt_of_le X2.out.lt G6_25.out
              have L4 := Nat.lt_of_lt_of_le X4.out.lt G6_25.out
              have L5 := Nat.lt_of_lt_of_le X5.out.lt G6_25.out
              have HF := Lib.hid (below_row (HB.out.trans (H31.out.mono HB.out.size)) (Nat.le_of_lt (Nat.lt_of_succ_lt L2)) (cF ov))
              have F6 := Lib.hid (N6_31.out.row (cF ov))
              have F2 := Lib.hid ((X2.out.old H31.out).rowFar (Nat.ne_of_lt L2) (cF ov))
              have F4 := Lib.hid ((X4.out.old H31.out).rowFar (Nat.ne_of_lt L4) (cF ov))
              have F5 := Lib.hid ((X5.out.old H31.out).rowFar (Nat.ne_of_lt L5) (cF ov))
              have L2 := Lib.hid L2
              clear hHeld L4 L5
              go_wp2_with fail
              go_meet
              exact ⟨_, rfl, F6.out, F2.out, F4.out, F5.out, HF.out, L2.out⟩
  case rest =>
    obtain ⟨g6, rfl, k6, k2, k4, k5, kb, kl⟩ := hcut
    generalize wc = W3 at *
    have X6 := Lib.hid k6
    have X2 := Lib.hid k2
    have X4 := Lib.hid k4
    have X5 := Lib.hid k5
    have HB := Lib.hid kb
    have G6 := Lib.hid kl
    clear k6 k2 k4 k5 kb kl hz0
    go_upto_region 4 with fail
    (try simp only [Act.put, List.setIfInBounds_toArray, List.set_cons_zero, List.set_cons_succ])
    refine wp_region_held_drew (S := fun V => Far (w.heap.size + 1) W3 V) (by kernel_rfl) (Far.of (Below.refl _ _).drew) (fun hHeld => ?_)
    have HBW3 := Lib.hid ((Below.refl W3.heap.size W3).drew)
    generalize W3.drew = VW3 at *
    refine' wpAnyH_take (i := 0) (oi := _) (v := .agg (cF yy)) ?hit34 ?hst34 ?hft34 ?hrt34 ?hQt34 ?hyt34 ?hSt34 ?_
    case hit34 => (simp only [List.getElem?_toArray, List.getElem?_cons_succ, List.getElem?_cons_zero]; rfl)
    case hst34 => kernel_rfl
    case hft34 => kernel_rfl
    case hrt34 => kernel_rfl
    case hQt34 => exact fun _ _ _ h => h
    case hSt34 => assumption
    case hyt34 =>
      refine Or.inl ⟨by rfl, ?_⟩
      intro W hS
      exact quiet_load_row 35 (.tmp 5) _ rfl 35 (cF yy) _ (hS _ _ _ (by have := G4.out; have := G5.out; have := G6.out; omega) X5.out) Tryd.underlying35 rfl (cF_ok _).1 rfl
    (try simp only [Act.put, List.setIfInBounds_toArray, List.set_cons_zero, List.set_cons_succ])
    refine' wpAnyH_take (i := 1) (oi := _) (v := .agg (cF one)) ?hit35 ?hst35 ?hft35 ?hrt35 ?hQt35 ?hyt35 ?hSt35 ?_
    case hit35 => (simp only [List.getElem?_toArray, List.getElem?_cons_succ, List.getElem?_cons_zero]; rfl)
    case hst35 => kernel_rfl
    case hft35 => kernel_rfl
    case hrt35 => kernel_rfl
    case hQt35 => exact fun _ _ _ h => h
    case hSt35 => assumption
    case hyt35 =>
      refine Or.inl ⟨by rfl, ?_⟩
      intro W hS
      exact quiet_load_row 35 (.tmp 4) _ rfl 35 (cF one) _ (hS _ _ _ (by have := G4.out; have := G5.out; have := G6.out; omega) X4.out) Tryd.underlying35 rfl (cF_ok _).1 rfl
    (try simp only [Act.put, List.setIfInBounds_toArray, List.set_cons_zero, List.set_cons_succ])
    refine' wpAnyH_take (i := 3) (oi := _) (v := .agg (cF ov)) ?hit36 ?hst36 ?hft36 ?hrt36 ?hQt36 ?hyt36 ?hSt36 ?_
    case hit36 => (simp only [List.getElem?_toArray, List.getElem?_cons_succ, List.getElem?_cons_zero]; rfl)
    case hst36 => kernel_rfl
    case hft36 => kernel_rfl
    case hrt36 => kernel_rfl
    case hQt36 => exact fun _ _ _ h => h
    case hSt36 => assumption
    case hyt36 =>
      refine Or.inl ⟨by rfl, ?_⟩
      intro W hS
      exact quiet_load_row 35 (.tmp 6) _ rfl 35 (cF ov) _ (hS _ _ _ (by have := G4.out; have := G5.out; have := G6.out; omega) X6.out) Tryd.underlying35 rfl (cF_ok _).1 rfl
    (try simp only [Act.put, List.setIfInBounds_toArray, List.set_cons_zero, List.set_cons_succ])
    refine wpAnyH_ready (rs := [2]) (by kernel_rfl) (by simp) ?_
    refine' (AllReadyH.cons (o := _) ?hir37_2 (fun K hK => ?br37_2) AllReadyH.nil)
    case hir37_2 => (simp only [List.getElem?_toArray, List.getElem?_cons_succ, List.getElem?_cons_zero]; rfl)
    case br37_2 =>
      go_simp
      refine (rSub _ _ _).mono ?_
      rintro e w38 ⟨rfl, hb38⟩
      have H38 := Lib.hid (HBW3.out.trans (hb38.mono HBW3.out.size))
      clear hb38
      go_wp2_with fail
      refine hK.out _ _ ?_ (fun hHeld => ?_)
      exact Far.of H38.out
      clear hK K
      (try simp only [Act.put, List.setIfInBounds_toArray, List.set_cons_zero, List.set_cons_succ])
      refine wpAnyH_ready (rs := [4]) (by kernel_rfl) (by simp) ?_
      refine' (AllReadyH.cons (o := _) ?hir39_4 (fun K hK => ?br39_4) AllReadyH.nil)
      case hir39_4 => (simp only [List.getElem?_toArray, List.getElem?_cons_succ, List.getElem?_cons_zero]; rfl)
      case br39_4 =>
        go_simp
        refine (rInv _ _).mono ?_
        rintro e w40 ⟨rfl, hb40⟩
        have H40 := Lib.hid (H38.out.trans (hb40.mono H38.out.size))
        clear hb40
        go_wp2_with fail
        refine hK.out _ _ ?_ (fun hHeld => ?_)
        exact Far.of H40.out
        clear hK K
        (try simp only [Act.put, List.setIfInBounds_toArray, List.set_cons_zero, List.set_cons_succ])
        refine wpAnyH_ready (rs := [5]) (by kernel_rfl) (by simp) ?_
        refine' (AllReadyH.cons (o := _) ?hir41_5 (fun K hK => ?br41_5) AllReadyH.nil)
        case hir41_5 => (simp only [List.getElem?_toArray, List.getElem?_cons_succ, List.getElem?_cons_zero]; rfl)
        case br41_5 =>
          go_simp
          refine (CS.out _).mono ?_
          rintro e w42 ⟨rfl, hb42⟩
          have H42 := Lib.hid (H40.out.trans (hb42.mono H40.out.size))
          clear hb42
          go_wp2_with fail
          refine hK.out _ _ ?_ (fun hHeld => ?_)
          exact Far.of H42.out
          clear hK K
          (try simp only [Act.put, List.setIfInBounds_toArray, List.set_cons_zero, List.set_cons_succ])
          refine wpAnyH_ready (rs := [6]) (by kernel_rfl) (by simp) ?_
          refine' (AllReadyH.cons (o := _) ?hir43_6 (fun K hK => ?br43_6) AllReadyH.nil)
          case hir43_6 => (simp only [List.getElem?_toArray, List.getElem?_cons_succ, List.getElem?_cons_zero]; rfl)
          case br43_6 =>
            go_simp
            refine (CR.out _).mono ?_
            rintro e w44 ⟨rfl, hb44⟩
            have H44 := Lib.hid (H42.out.trans (hb44.mono H42.out.size))
            clear hb44
            go_wp2_with fail
            refine hK.out _ _ ?_ (fun hHeld => ?_)
            exact Far.of H44.out
            clear hK K
            (try simp only [Act.put, List.setIfInBounds_toArray, List.set_cons_zero, List.set_cons_succ])
            refine' wpAnyH_take (i := 7) (oi := _) (v := _) ?hit45 ?hst45 ?hft45 ?hrt45 ?hQt45 ?hyt45 ?hSt45 ?_
            case hit45 => (simp only [List.getElem?_toArray, List.getElem?_cons_succ, List.getElem?_cons_zero]; rfl)
            case hst45 => kernel_rfl
            case hft45 => kernel_rfl
            case hrt45 => kernel_rfl
            case hQt45 => exact fun _ _ _ h => h
            case hSt45 => assumption
            case hyt45 =>
              refine Or.inl ⟨by rfl, ?_⟩
              intro w hSw
              (try dsimp only at hSw)
              go_simp
              all_goals (with_reducible rfl)
            (try simp only [Act.put, List.setIfInBounds_toArray, List.set_cons_zero, List.set_cons_succ])
            refine' wpAnyH_take (i := 8) (oi := _) (v := _) ?hit46 ?hst46 ?hft46 ?hrt46 ?hQt46 ?hyt46 ?hSt46 ?_
            case hit46 => (simp only [List.getElem?_toArray, List.getElem?_cons_succ, List.getElem?_cons_zero]; rfl)
            case hst46 => kernel_rfl
            case hft46 => kernel_rfl
            case hrt46 => kernel_rfl
            case hQt46 => exact fun _ _ _ h => h
            case hSt46 => assumption
            case hyt46 =>
              refine Or.inl ⟨by rfl, ?_⟩
              intro w hSw
              (try dsimp only at hSw)
              go_simp
              all_goals (with_reducible rfl)
            (try simp only [Act.put, List.setIfInBounds_toArray, List.set_cons_zero, List.set_cons_succ])
            refine wpAnyH_ready (rs := [9]) (by kernel_rfl) (by simp) ?_
            refine' (AllReadyH.cons (o := _) ?hir47_9 (fun K hK => ?br47_9) AllReadyH.nil)
            case hir47_9 => (simp only [List.getElem?_toArray, List.getElem?_cons_succ, List.getElem?_cons_zero]; rfl)
            case br47_9 =>
              refine step_of_wp rfl ?_
              refine wp_store_row 35 (.tmp 2) (.tmp 23) rfl (w.heap.size + 1) (cF r) rfl rfl 35 z (X2.out.old H44.out) (cF_ok _).1 (oz.out _) (cF_ok _).2 ?_
              refine hK.out _ _ ?_ (fun hHeld => ?_)
              exact (Far.of H44.out).row _
              clear hK K
              (try simp only [Act.put, List.setIfInBounds_toArray, List.set_cons_zero, List.set_cons_succ])
              refine' wpAnyH_take (i := 10) (oi := _) (v := _) ?hit49 ?hst49 ?hft49 ?hrt49 ?hQt49 ?hyt49 ?hSt49 ?_
              case hit49 => (simp only [List.getElem?_toArray, List.getElem?_cons_succ, List.getElem?_cons_zero]; rfl)
              case hst49 => kernel_rfl
              case hft49 => kernel_rfl
              case hrt49 => kernel_rfl
              case hQt49 => exact fun _ _ _ h => h
              case hSt49 => assumption
              case hyt49 =>
                refine Or.inl ⟨by rfl, ?_⟩
                intro w hSw
                (try dsimp only at hSw)
                go_simp
                all_goals (with_reducible rfl)
              (try simp only [Act.put, List.setIfInBounds_toArray, List.set_cons_zero, List.set_cons_succ])
              refine wpAnyH_done (by kernel_rfl) ?_ _
              have HF := Lib.hid (below_row (HB.out.trans (H44.out.mono HB.out.size)) (Nat.le_succ _) (cF r))
              have F2 := Lib.hid ((X2.out.old H44.out).row (cF r))
              clear hHeld
              go_wp2_with fail
              refine bodyPost_ret (v := .tuple #[.agg (cF r), .bool b]) ?_ rfl ⟨rfl, HF.out⟩
              exact results_row_tmp Tryd.results34 _ _ (w.heap.size + 1) 35 _ _ _ _ rfl rfl F2.out Tryd.underlying35 (cF_ok _).1
end Go.Proofs.YtjiadbaaggifpaaDoor
end

section
set_option linter.unusedVariables false
set_option linter.unusedSimpArgs false
namespace Go.Proofs.YtjiadbaaggifpaaDoor
open Go Go.Proofs Go.RowKit F5

def pV (x y z : Fp) : Array Value := cF x ++ cF y ++ cF z
theorem pV_size (x y z : Fp) : (pV x y z).size = 48 := by simp [pV, cF_size]
theorem pV_info (x y z : Fp) : (Tryd.prog.info? 37).map (·.size) = some (pV x y z).size := by rw [pV_size]; kernel_rfl
theorem pV_one (x y z : Fp) : (pV x y z).all (·.oneCell') = true := by
  unfold pV
  rw [Array.all_append, Array.all_append, (cF_ok x).2, (cF_ok y).2, (cF_ok z).2]; rfl
theorem pV_sz (x y z x' y' z' : Fp) : (pV x y z).size = (pV x' y' z').size := by rw [pV_size, pV_size]
theorem zeroP (W : World) : (zeroValue 37).run Tryd.prog W = .ok (.agg (pV 0 0 0)) W := by
  have h : pV 0 0 0 = u64s (List.replicate 48 0) := by
    unfold pV cF
    rw [show (0 : Fp).val = 0 from rfl, ← zero16]; rfl
  rw [h]; exact (zero_of_info (n := 48) (by kernel_rfl)).1 W
theorem built_P (x y z : Fp) : Tryd.prog.built 37 [(0, .agg (cF x)), (1, .agg (cF y)), (2, .agg (cF z))] = some (pV x y z) := by kernel_rfl
theorem built_YZ (y z : Fp) : Tryd.prog.built 37 [(1, .agg (cF y)), (2, .agg (cF z))] = some (pV 0 y z) := by kernel_rfl
theorem built_nilP : Tryd.prog.built 37 [] = some (pV 0 0 0) := by kernel_rfl
theorem pV_x {w : World} {g T : Nat} {x y z : Fp} (h : Blk w g T (pV x y z)) (j : Nat) (v : Value) (hj : (cF x)[j]? = some v) : w.cell? ⟨g, 0 + j, none⟩ = some v := by
  have hl : j < 16 := by rw [← cF_size x]; exact (Array.getElem?_eq_some_iff.1 hj).1
  rw [h.cell, ← hj, pV, Nat.zero_add, Array.getElem?_append_left (by simp [cF_size]; omega), Array.getElem?_append_left (by rw [cF_size]; exact hl)]
theorem pV_y {w : World} {g T : Nat} {x y z : Fp} (h : Blk w g T (pV x y z)) (j : Nat) (v : Value) (hj : (cF y)[j]? = some v) : w.cell? ⟨g, 16 + j, none⟩ = some v := by
  have hl : j < 16 := by rw [← cF_size y]; exact (Array.getElem?_eq_some_iff.1 hj).1
  rw [h.cell, ← hj, pV, Array.getElem?_append_left (by simp [cF_size]; omega), Array.getElem?_append_right (by rw [cF_size]; omega), cF_size, Nat.add_sub_cancel_left]
theorem pV_z {w : World} {g T : Nat} {x y z : Fp} (h : Blk w g T (pV x y z)) (j : Nat) (v : Value) (hj : (cF z)[j]? = some v) : w.cell? ⟨g, 32 + j, none⟩ = some v := by
  rw [h.cell, ← hj, pV, Array.getElem?_append_right (by simp [cF_size])]
  simp [cF_size]
theorem quiet_load_at {P : Program} {o : Oper} {ev : Operand → Value} {w : World} (t : TypeId) (x : Operand) (g off : Nat) (hx : ev x = .pointer (some ⟨g, off, none⟩)) (e : TypeId) (n : Nat) (cs : Array Value) (hu : P.underlying t = some (.array n e)) (hi : (P.info? t).map (·.size) = some cs.size)
    (hc : ∀ j v, cs[j]? = some v → w.cell? ⟨g, off + j, none⟩ = some v) (ho : o.op = .load t x) : (execOp ev o).run P w = .ok (.value (.agg cs)) w := by
  unfold execOp
  simp only [ho, hx, Instr.loadAt, Instr.sureAddr, Sem.run_bind, Sem.run_pure, Result.andThen_ok, run_loadVar_at w g off t e n cs hu hi hc]
theorem quiet_build_to {P : Program} {o : Oper} {ev : Operand → Value} {w : World} (t : TypeId) (parts : Array (Nat × Operand)) (ho : o.op = .build t parts)
    (vals : List (Nat × Value)) (hv : (parts.map fun (i, x) => (i, ev x)).toList = vals) (cells : Array Value) (hb : P.built t vals = some cells) : (execOp ev o).run P w = .ok (.value (.agg cells)) w := by
  unfold execOp
  simp only [ho, Sem.run_bind, run_build w t _ cells (by rw [hv]; exact hb), Result.andThen_ok, Sem.run_pure]
theorem two_pts (w : World) (a b : Array Value) : Blk ((w.alloc (.cells a 37)).alloc (.cells b 37)) w.heap.size 37 a ∧
    Blk ((w.alloc (.cells a 37)).alloc (.cells b 37)) (w.heap.size + 1) 37 b ∧ Below w.heap.size w ((w.alloc (.cells a 37)).alloc (.cells b 37)) := by
  refine ⟨(Blk.new w _ a).alloc _, ?_, ((Below.refl _ _).alloc (Nat.le_refl _) _).alloc (by simp) _⟩
  have := Blk.new (w.alloc (.cells a 37)) 37 b
  rwa [show (w.alloc (.cells a 37)).heap.size = w.heap.size + 1 by simp] at this
end Go.Proofs.YtjiadbaaggifpaaDoor
end

section
set_option linter.unusedVariables false
set_option linter.unusedSimpArgs false
namespace Go.Proofs.YtjiadbaaggifpaaDoor
open Go Go.Proofs Go.RowKit F5

/-- What is known of a point's cells. -/
theorem pV_ok (x y z : Fp) : (Tryd.prog.info? 37).map (·.size) = some (pV x y z).size ∧ (pV x y z).all (·.oneCell') = true ∧ (pV 0 0 0).size = (pV x y z).size := ⟨pV_info _ _ _, pV_one _ _ _, pV_sz _ _ _ _ _ _⟩
set_option maxHeartbeats 400000 in
set_option maxRecDepth 100000 in
theorem refZero_any (w : World) : Calls Tryd.prog 51 #[] w fun e w' => e = .returned (.agg (pV 0 1 1)) ∧ Below w.heap.size w w' := by
  obtain ⟨z, hz⟩ : ∃ z, Hid (z = pV 0 0 0) := ⟨_, Lib.hid rfl⟩
  have hz0 : ∀ W, (zeroValue 37).run Tryd.prog W = .ok (.agg z) W := by rw [hz.out]; exact zeroP
  obtain ⟨one, h1⟩ : ∃ a : Fp, Hid (a = 1) := ⟨_, Lib.hid rfl⟩
  have C1 : Hid (∀ V, Calls Tryd.prog 36 #[.int .u64 1] V fun e w' => e = .returned (.agg (cF one)) ∧ Below V.heap.size V w') := Lib.hid fun V => rOf 1 (by decide) one (by rw [h1.out]; exact fv _ _ (by decide)) _ rfl V
  rw [← h1.out]
  have hBu := Lib.hid (built_YZ one one)
  have ok := Lib.hid (pV_ok 0 one one)
  rw [← hz.out] at ok
  generalize pV 0 one one = R at *
  generalize cF one = c1 at *
  have X0 := Lib.hid (Blk.new w 37 z)
  have HB := Lib.hid ((Below.refl w.heap.size w).alloc (Nat.le_refl _) (.cells z 37))
  clear hz h1
  go_enter Tryd.func51, Tryd.ntmps51
  go_wp2_with fail
  generalize w.alloc (.cells z 37) = W at *
  refine (C1.out _).mono ?_
  rintro e w1 ⟨rfl, hb⟩
  have X0 := Lib.hid (X0.out.old hb)
  have HB := Lib.hid (HB.out.trans (hb.mono HB.out.size))
  clear hb
  go_wp2_with fail
  refine (C1.out _).mono ?_
  rintro e w2 ⟨rfl, hb⟩
  have X0 := Lib.hid (X0.out.old hb)
  have HB := Lib.hid (HB.out.trans (hb.mono HB.out.size))
  clear hb
  have X1 := Lib.hid (X0.out.row R)
  have HF := Lib.hid (below_row HB.out (Nat.le_refl _) R)
  go_wp2_with (first | (refine wpList_build_to rfl 37 #[(1, .tmp 1), (2, .tmp 2)] rfl [(1, .agg c1), (2, .agg c1)] (by simp [Act.eval, Act.put]) R hBu.out ?_) | (refine wpList_store_row rfl 37 (.tmp 0) (.tmp 3) rfl w.heap.size _ rfl rfl 37 z X0.out ok.out.1 ok.out.2.2 ok.out.2.1 ?_))
  refine bodyPost_ret (v := .agg R) ?_ rfl ⟨rfl, HF.out⟩
  exact results_cell_row Tryd.results51 _ _ w.heap.size 37 _ (0, 0) _ rfl X1.out Tryd.underlying37 rfl ok.out.1
end Go.Proofs.YtjiadbaaggifpaaDoor
end

section
set_option linter.unusedVariables false
set_option linter.unusedSimpArgs false
namespace Go.Proofs.YtjiadbaaggifpaaDoor
open Go Go.Proofs Go.RowKit F5

set_option maxHeartbeats 400000 in
set_option maxRecDepth 100000 in
theorem refBase_any (w : World) : Calls Tryd.prog 22 #[] w fun e w' => e = .returned (.agg (pV pbase.x pbase.y 1)) ∧ Below w.heap.size w w' := by
  obtain ⟨z, hz⟩ : ∃ z, Hid (z = pV 0 0 0) := ⟨_, Lib.hid rfl⟩
  have hz0 : ∀ W, (zeroValue 37).run Tryd.prog W = .ok (.agg z) W := by rw [hz.out]; exact zeroP
  obtain ⟨zf, hzf⟩ : ∃ z, Hid (z = cF 0) := ⟨_, Lib.hid rfl⟩
  have hzf0 : ∀ W, (zeroValue 35).run Tryd.prog W = .ok (.agg zf) W := by rw [hzf.out]; exact zeroF
  have of : Hid (∀ a : Fp, zf.size = (cF a).size) := Lib.hid (fun a => by rw [hzf.out]; exact cF_sz _ _)
  obtain ⟨one, h1⟩ : ∃ a : Fp, Hid (a = 1) := ⟨_, Lib.hid rfl⟩
  have C1 : Hid (∀ V, Calls Tryd.prog 36 #[.int .u64 1] V fun e w' => e = .returned (.agg (cF one)) ∧ Below V.heap.size V w') := Lib.hid fun V => rOf 1 (by decide) one (by rw [h1.out]; exact fv _ _ (by decide)) _ rfl V
  rw [← h1.out]
  obtain ⟨a, ha⟩ : ∃ a : Fp, Hid (a = 4) := ⟨_, Lib.hid rfl⟩
  obtain ⟨b, hb⟩ : ∃ a : Fp, Hid (a = 5) := ⟨_, Lib.hid rfl⟩
  have C4 : Hid (∀ V, Calls Tryd.prog 36 #[.int .u64 4] V fun e w' => e = .returned (.agg (cF a)) ∧ Below V.heap.size V w') := Lib.hid fun V => rOf 4 (by decide) a (by rw [ha.out]; exact fv _ _ (by decide)) _ rfl V
  have C5 : Hid (∀ V, Calls Tryd.prog 36 #[.int .u64 5] V fun e w' => e = .returned (.agg (cF b)) ∧ Below V.heap.size V w') := Lib.hid fun V => rOf 5 (by decide) b (by rw [hb.out]; exact fv _ _ (by decide)) _ rfl V
  obtain ⟨x, hx⟩ : ∃ a : Fp, Hid (a = pbase.x) := ⟨_, Lib.hid rfl⟩
  obtain ⟨y, hy⟩ : ∃ a : Fp, Hid (a = pbase.y) := ⟨_, Lib.hid rfl⟩
  have CM : Hid (∀ V, Calls Tryd.prog 49 #[.agg (cF a), .agg (cF (finv b))] V fun e w' => e = .returned (.agg (cF y)) ∧ Below V.heap.size V w') := Lib.hid fun V => by
    have := rMul a (finv b) V
    rwa [show a * finv b = y by rw [ha.out, hb.out, hy.out]; exact base_gy] at this
  obtain ⟨bb, hbb⟩ : ∃ b, Hid (b = decide (hasRoot (xsq y).val)) := ⟨_, Lib.hid rfl⟩
  have CX : Hid (∀ V, Calls Tryd.prog 34 #[.agg (cF y)] V fun e w' => e = .returned (.tuple #[.agg (cF x), .bool bb]) ∧ Below V.heap.size V w') := Lib.hid fun V => by
    have := refXof_any y V
    rwa [← hbb.out, show rootF (xsq y) = x by rw [hx.out, hy.out]; exact base_x_root.2] at this
  rw [← hx.out, ← hy.out]
  have hBu := Lib.hid (built_P x y one)
  have ok := Lib.hid (pV_ok x y one)
  rw [← hz.out] at ok
  generalize pV x y one = R at *
  have X0 := Lib.hid (Blk.new w 37 z)
  have HB := Lib.hid ((Below.refl w.heap.size w).alloc (Nat.le_refl _) (.cells z 37))
  clear hz hzf h1 ha hb hx hy hbb
  go_enter Tryd.func22, Tryd.ntmps22
  go_wp2_with fail
  generalize w.alloc (.cells z 37) = W at *
  refine (C4.out _).mono ?_
  rintro e w1 ⟨rfl, hb⟩
  have X0 := Lib.hid (X0.out.old hb)
  have HB := Lib.hid (HB.out.trans (hb.mono HB.out.size))
  clear hb
  go_wp2_with fail
  refine (C5.out _).mono ?_
  rintro e w2 ⟨rfl, hb⟩
  have X0 := Lib.hid (X0.out.old hb)
  have HB := Lib.hid (HB.out.trans (hb.mono HB.out.size))
  clear hb
  go_wp2_with fail
  refine (rInv _ _).mono ?_
  rintro e w3 ⟨rfl, hb⟩
  have X0 := Lib.hid (X0.out.old hb)
  have HB := Lib.hid (HB.out.trans (hb.mono HB.out.size))
  clear hb
  go_wp2_with fail
  refine (CM.out _).mono ?_
  rintro e w4 ⟨rfl, hb⟩
  have X0 := Lib.hid ((X0.out.old hb).alloc (.cells (cF y) 35))
  have HB := Lib.hid ((HB.out.trans (hb.mono HB.out.size)).alloc (HB.out.trans (hb.mono HB.out.size)).size (.cells (cF y) 35))
  have X1 := Lib.hid (Blk.new w4 35 (cF y))
  clear hb
  go_upto_region 2 with (first | (refine wpList_store_row rfl 35 (.tmp 1) (.tmp 7) rfl w4.heap.size (cF y) rfl rfl 35 _ (heap_alloc_new w4 _) (cF_ok _).1 (of.out _) (cF_ok _).2 ?_; rw [setRow_alloc1]))
  generalize w4.alloc (.cells (cF y) 35) = W1 at *
  generalize w4.heap.size = g1 at *
  go_upto_region 3 with (first | (refine wpList_load_row rfl 35 (.tmp 1) rfl g1 rfl 35 (cF y) (0, 0) _ X1.out Tryd.underlying35 rfl (cF_ok _).1 ?_))
  refine (CX.out _).mono ?_
  rintro e w5 ⟨rfl, hb⟩
  have X0 := Lib.hid ((X0.out.old hb).alloc (.cells (cF x) 35))
  have X1 := Lib.hid ((X1.out.old hb).alloc (.cells (cF x) 35))
  have HB := Lib.hid ((HB.out.trans (hb.mono HB.out.size)).alloc (HB.out.trans (hb.mono HB.out.size)).size (.cells (cF x) 35))
  have X2 := Lib.hid (Blk.new w5 35 (cF x))
  clear hb
  go_upto_region 3 with (first | (refine wpList_store_row rfl 35 (.tmp 2) (.tmp 11) rfl w5.heap.size (cF x) rfl rfl 35 _ (heap_alloc_new w5 _) (cF_ok _).1 (of.out _) (cF_ok _).2 ?_; rw [setRow_alloc1]))
  generalize w5.alloc (.cells (cF x) 35) = W2 at *
  generalize w5.heap.size = g2 at *
  have N1 : Hid (g1 ≠ w.heap.size) := Lib.hid (by rintro rfl; exact absurd (X0.out.ne_ X1.out (by decide)) (by simp))
  have N2 : Hid (g2 ≠ w.heap.size) := Lib.hid (by rintro rfl; exact absurd (X0.out.ne_ X2.out (by decide)) (by simp))
  (try simp only [Act.put, List.setIfInBounds_toArray, List.set_cons_zero, List.set_cons_succ])
  refine wp_region_held_drew (S := fun V => Far w.heap.size W2 V) (by kernel_rfl) (Far.of (Below.refl _ _).drew) (fun hHeld => ?_)
  have HBW2 := Lib.hid ((Below.refl W2.heap.size W2).drew)
  generalize W2.drew = VW2 at *
  refine' wpAnyH_take (i := 0) (oi := _) (v := .agg (cF x)) ?hit1 ?hst1 ?hft1 ?hrt1 ?hQt1 ?hyt1 ?hSt1 ?_
  case hit1 => (simp only [List.getElem?_toArray, List.getElem?_cons_succ, List.getElem?_cons_zero]; rfl)
  case hst1 => kernel_rfl
  case hft1 => kernel_rfl
  case hrt1 => kernel_rfl
  case hQt1 => exact fun _ _ _ h => h
  case hSt1 => assumption
  case hyt1 =>
    refine Or.inl ⟨by rfl, ?_⟩
    intro W hS
    exact quiet_load_row 35 (.tmp 2) _ rfl 35 (cF x) _ (hS _ _ _ (by have := N1.out; have := N2.out; omega) X2.out) Tryd.underlying35 rfl (cF_ok _).1 rfl
  (try simp only [Act.put, List.setIfInBounds_toArray, List.set_cons_zero, List.set_cons_succ])
  refine' wpAnyH_take (i := 1) (oi := _) (v := .agg (cF y)) ?hit2 ?hst2 ?hft2 ?hrt2 ?hQt2 ?hyt2 ?hSt2 ?_
  case hit2 => (simp only [List.getElem?_toArray, List.getElem?_cons_succ, List.getElem?_cons_zero]; rfl)
  case hst2 => kernel_rfl
  case hft2 => kernel_rfl
  case hrt2 => kernel_rfl
  case hQt2 => exact fun _ _ _ h => h
  case hSt2 => assumption
  case hyt2 =>
    refine Or.inl ⟨by rfl, ?_⟩
    intro W hS
    exact quiet_load_row 35 (.tmp 1) _ rfl 35 (cF y) _ (hS _ _ _ (by have := N1.out; have := N2.out; omega) X1.out) Tryd.underlying35 rfl (cF_ok _).1 rfl
  (try simp only [Act.put, List.setIfInBounds_toArray, List.set_cons_zero, List.set_cons_succ])
  refine wpAnyH_ready (rs := [2]) (by kernel_rfl) (by simp) ?_
  refine' (AllReadyH.cons (o := _) ?hir3_2 (fun K hK => ?br3_2) AllReadyH.nil)
  case hir3_2 => (simp only [List.getElem?_toArray, List.getElem?_cons_succ, List.getElem?_cons_zero]; rfl)
  case br3_2 =>
    go_simp
    refine (C1.out _).mono ?_
    rintro e w4 ⟨rfl, hb4⟩
    have H4 := Lib.hid (HBW2.out.trans (hb4.mono HBW2.out.size))
    clear hb4
    go_wp2_with fail
    refine hK.out _ _ ?_ (fun hHeld => ?_)
    exact Far.of H4.out
    clear hK K
    (try simp only [Act.put, List.setIfInBounds_toArray, List.set_cons_zero, List.set_cons_succ])
    refine' wpAnyH_take (i := 3) (oi := _) (v := .agg R) ?hit5 ?hst5 ?hft5 ?hrt5 ?hQt5 ?hyt5 ?hSt5 ?_
    case hit5 => (simp only [List.getElem?_toArray, List.getElem?_cons_succ, List.getElem?_cons_zero]; rfl)
    case hst5 => kernel_rfl
    case hft5 => kernel_rfl
    case hrt5 => kernel_rfl
    case hQt5 => exact fun _ _ _ h => h
    case hSt5 => assumption
    case hyt5 =>
      refine Or.inl ⟨by rfl, ?_⟩
      intro W hS
      exact quiet_build_to 37 #[(0, .tmp 13), (1, .tmp 14), (2, .tmp 15)] rfl [(0, .agg (cF x)), (1, .agg (cF y)), (2, .agg (cF one))] (by simp [Act.eval]) R hBu.out
    (try simp only [Act.put, List.setIfInBounds_toArray, List.set_cons_zero, List.set_cons_succ])
    refine wpAnyH_ready (rs := [4]) (by kernel_rfl) (by simp) ?_
    refine' (AllReadyH.cons (o := _) ?hir6_4 (fun K hK => ?br6_4) AllReadyH.nil)
    case hir6_4 => (simp only [List.getElem?_toArray, List.getElem?_cons_succ, List.getElem?_cons_zero]; rfl)
    case br6_4 =>
      refine step_of_wp rfl ?_
      refine wp_store_row 37 (.tmp 0) (.tmp 16) rfl w.heap.size R rfl rfl 37 z (X0.out.old H4.out) ok.out.1 ok.out.2.2 ok.out.2.1 ?_
      refine hK.out _ _ ?_ (fun hHeld => ?_)
      exact (Far.of H4.out).row _
      clear hK K
      (try simp only [Act.put, List.setIfInBounds_toArray, List.set_cons_zero, List.set_cons_succ])
      refine wpAnyH_done (by kernel_rfl) ?_ _
      have HF := Lib.hid (below_row (HB.out.trans (H4.out.mono HB.out.size)) (Nat.le_refl _) R)
      have F2 := Lib.hid ((X0.out.old H4.out).row R)
      clear hHeld
      go_wp2_with fail
      refine bodyPost_ret (v := .agg R) ?_ rfl ⟨rfl, HF.out⟩
      exact results_cell_row Tryd.results22 _ _ w.heap.size 37 _ (0, 0) _ rfl F2.out Tryd.underlying37 rfl ok.out.1

set_option maxHeartbeats 400000 in
set_option maxRecDepth 100000 in
theorem refNegP_any (x y zz : Fp) (w : World) : Calls Tryd.prog 18 #[.agg (pV x y zz)] w fun e w' => e = .returned (.agg (pV (0 - x) y zz)) ∧ Below w.heap.size w w' := by
  obtain ⟨z, hz⟩ : ∃ z, Hid (z = pV 0 0 0) := ⟨_, Lib.hid rfl⟩
  have hz0 : ∀ W, (zeroValue 37).run Tryd.prog W = .ok (.agg z) W := by rw [hz.out]; exact zeroP
  have hBu := Lib.hid (built_P (0 - x) y zz)
  have ok := Lib.hid (pV_ok (0 - x) y zz)
  rw [← hz.out] at ok
  generalize pV (0 - x) y zz = R at *
  have KX := Lib.hid (fun (V : World) g T (h : Blk V g T (pV x y zz)) => pV_x h)
  have KY := Lib.hid (fun (V : World) g T (h : Blk V g T (pV x y zz)) => pV_y h)
  have KZ := Lib.hid (fun (V : World) g T (h : Blk V g T (pV x y zz)) => pV_z h)
  generalize pV x y zz = A at *
  obtain ⟨x1, x2, x3⟩ := two_pts w A z
  clear hz
  go_enter Tryd.func18, Tryd.ntmps18
  go_upto_region 1 with fail
  generalize (w.alloc (.cells A 37)).alloc (.cells z 37) = W at *
  have X1 := Lib.hid x1
  have X2 := Lib.hid x2
  have HB := Lib.hid x3
  clear x1 x2 x3
  (try simp only [Act.put, List.setIfInBounds_toArray, List.set_cons_zero, List.set_cons_succ])
  refine wp_region_held_drew (S := fun V => Far (w.heap.size + 1) W V) (by kernel_rfl) (Far.of (Below.refl _ _).drew) (fun hHeld => ?_)
  have HBW := Lib.hid ((Below.refl W.heap.size W).drew)
  generalize W.drew = VW at *
  refine' wpAnyH_take (i := 0) (oi := _) (v := _) ?hit8 ?hst8 ?hft8 ?hrt8 ?hQt8 ?hyt8 ?hSt8 ?_
  case hit8 => (simp only [List.getElem?_toArray, List.getElem?_cons_succ, List.getElem?_cons_zero]; rfl)
  case hst8 => kernel_rfl
  case hft8 => kernel_rfl
  case hrt8 => kernel_rfl
  case hQt8 => exact fun _ _ _ h => h
  case hSt8 => assumption
  case hyt8 =>
    refine Or.inl ⟨by rfl, ?_⟩
    intro w hSw
    (try dsimp only at hSw)
    go_simp
    all_goals (with_reducible rfl)
  (try simp only [Act.put, List.setIfInBounds_toArray, List.set_cons_zero, List.set_cons_succ])
  refine' wpAnyH_take (i := 1) (oi := _) (v := .agg (cF x)) ?hit9 ?hst9 ?hft9 ?hrt9 ?hQt9 ?hyt9 ?hSt9 ?_
  case hit9 => (simp only [List.getElem?_toArray, List.getElem?_cons_succ, List.getElem?_cons_zero]; rfl)
  case hst9 => kernel_rfl
  case hft9 => kernel_rfl
  case hrt9 => kernel_rfl
  case hQt9 => exact fun _ _ _ h => h
  case hSt9 => assumption
  case hyt9 =>
    refine Or.inl ⟨by rfl, ?_⟩
    intro W hS
    exact quiet_load_at 35 (.tmp 3) _ 0 rfl 24 16 (cF x) Tryd.underlying35 (cF_ok _).1 (KX.out _ _ _ (hS _ _ _ (by omega) X1.out)) rfl
  (try simp only [Act.put, List.setIfInBounds_toArray, List.set_cons_zero, List.set_cons_succ])
  refine' wpAnyH_take (i := 3) (oi := _) (v := _) ?hit10 ?hst10 ?hft10 ?hrt10 ?hQt10 ?hyt10 ?hSt10 ?_
  case hit10 => (simp only [List.getElem?_toArray, List.getElem?_cons_succ, List.getElem?_cons_zero]; rfl)
  case hst10 => kernel_rfl
  case hft10 => kernel_rfl
  case hrt10 => kernel_rfl
  case hQt10 => exact fun _ _ _ h => h
  case hSt10 => assumption
  case hyt10 =>
    refine Or.inl ⟨by rfl, ?_⟩
    intro w hSw
    (try dsimp only at hSw)
    go_simp
    all_goals (with_reducible rfl)
  (try simp only [Act.put, List.setIfInBounds_toArray, List.set_cons_zero, List.set_cons_succ])
  refine' wpAnyH_take (i := 4) (oi := _) (v := .agg (cF y)) ?hit11 ?hst11 ?hft11 ?hrt11 ?hQt11 ?hyt11 ?hSt11 ?_
  case hit11 => (simp only [List.getElem?_toArray, List.getElem?_cons_succ, List.getElem?_cons_zero]; rfl)
  case hst11 => kernel_rfl
  case hft11 => kernel_rfl
  case hrt11 => kernel_rfl
  case hQt11 => exact fun _ _ _ h => h
  case hSt11 => assumption
  case hyt11 =>
    refine Or.inl ⟨by rfl, ?_⟩
    intro W hS
    exact quiet_load_at 35 (.tmp 6) _ 16 rfl 24 16 (cF y) Tryd.underlying35 (cF_ok _).1 (KY.out _ _ _ (hS _ _ _ (by omega) X1.out)) rfl
  (try simp only [Act.put, List.setIfInBounds_toArray, List.set_cons_zero, List.set_cons_succ])
  refine' wpAnyH_take (i := 5) (oi := _) (v := _) ?hit12 ?hst12 ?hft12 ?hrt12 ?hQt12 ?hyt12 ?hSt12 ?_
  case hit12 => (simp only [List.getElem?_toArray, List.getElem?_cons_succ, List.getElem?_cons_zero]; rfl)
  case hst12 => kernel_rfl
  case hft12 => kernel_rfl
  case hrt12 => kernel_rfl
  case hQt12 => exact fun _ _ _ h => h
  case hSt12 => assumption
  case hyt12 =>
    refine Or.inl ⟨by rfl, ?_⟩
    intro w hSw
    (try dsimp only at hSw)
    go_simp
    all_goals (with_reducible rfl)
  (try simp only [Act.put, List.setIfInBounds_toArray, List.set_cons_zero, List.set_cons_succ])
  refine' wpAnyH_take (i := 6) (oi := _) (v := .agg (cF zz)) ?hit13 ?hst13 ?hft13 ?hrt13 ?hQt13 ?hyt13 ?hSt13 ?_
  case hit13 => (simp only [List.getElem?_toArray, List.getElem?_cons_succ, List.getElem?_cons_zero]; rfl)
  case hst13 => kernel_rfl
  case hft13 => kernel_rfl
  case hrt13 => kernel_rfl
  case hQt13 => exact fun _ _ _ h => h
  case hSt13 => assumption
  case hyt13 =>
    refine Or.inl ⟨by rfl, ?_⟩
    intro W hS
    exact quiet_load_at 35 (.tmp 8) _ 32 rfl 24 16 (cF zz) Tryd.underlying35 (cF_ok _).1 (KZ.out _ _ _ (hS _ _ _ (by omega) X1.out)) rfl
  (try simp only [Act.put, List.setIfInBounds_toArray, List.set_cons_zero, List.set_cons_succ])
  refine wpAnyH_ready (rs := [2]) (by kernel_rfl) (by simp) ?_
  refine' (AllReadyH.cons (o := _) ?hir14_2 (fun K hK => ?br14_2) AllReadyH.nil)
  case hir14_2 => (simp only [List.getElem?_toArray, List.getElem?_cons_succ, List.getElem?_cons_zero]; rfl)
  case br14_2 =>
    go_simp
    refine (rNeg _ _).mono ?_
    rintro e w15 ⟨rfl, hb15⟩
    have H15 := Lib.hid (HBW.out.trans (hb15.mono HBW.out.size))
    clear hb15
    go_wp2_with fail
    refine hK.out _ _ ?_ (fun hHeld => ?_)
    exact Far.of H15.out
    clear hK K
    (try simp only [Act.put, List.setIfInBounds_toArray, List.set_cons_zero, List.set_cons_succ])
    refine' wpAnyH_take (i := 7) (oi := _) (v := .agg R) ?hit16 ?hst16 ?hft16 ?hrt16 ?hQt16 ?hyt16 ?hSt16 ?_
    case hit16 => (simp only [List.getElem?_toArray, List.getElem?_cons_succ, List.getElem?_cons_zero]; rfl)
    case hst16 => kernel_rfl
    case hft16 => kernel_rfl
    case hrt16 => kernel_rfl
    case hQt16 => exact fun _ _ _ h => h
    case hSt16 => assumption
    case hyt16 =>
      refine Or.inl ⟨by rfl, ?_⟩
      intro W hS
      exact quiet_build_to 37 #[(0, .tmp 5), (1, .tmp 7), (2, .tmp 9)] rfl [(0, .agg (cF (0 - x))), (1, .agg (cF y)), (2, .agg (cF zz))] (by simp [Act.eval]) R hBu.out
    (try simp only [Act.put, List.setIfInBounds_toArray, List.set_cons_zero, List.set_cons_succ])
    refine wpAnyH_ready (rs := [8]) (by kernel_rfl) (by simp) ?_
    refine' (AllReadyH.cons (o := _) ?hir17_8 (fun K hK => ?br17_8) AllReadyH.nil)
    case hir17_8 => (simp only [List.getElem?_toArray, List.getElem?_cons_succ, List.getElem?_cons_zero]; rfl)
    case br17_8 =>
      refine step_of_wp rfl ?_
      refine wp_store_row 37 (.tmp 2) (.tmp 10) rfl (w.heap.size + 1) R rfl rfl 37 z (X2.out.old H15.out) ok.out.1 ok.out.2.2 ok.out.2.1 ?_
      refine hK.out _ _ ?_ (fun hHeld => ?_)
      exact (Far.of H15.out).row _
      clear hK K
      (try simp only [Act.put, List.setIfInBounds_toArray, List.set_cons_zero, List.set_cons_succ])
      refine wpAnyH_done (by kernel_rfl) ?_ _
      have HF := Lib.hid (below_row (HB.out.trans (H15.out.mono HB.out.size)) (Nat.le_succ _) R)
      have F2 := Lib.hid ((X2.out.old H15.out).row R)
      clear hHeld
      go_wp2_with fail
      refine bodyPost_ret (v := .agg R) ?_ rfl ⟨rfl, HF.out⟩
      exact results_cell_row Tryd.results18 _ _ (w.heap.size + 1) 37 _ (0, 0) _ rfl F2.out Tryd.underlying37 rfl ok.out.1
end Go.Proofs.YtjiadbaaggifpaaDoor
end
