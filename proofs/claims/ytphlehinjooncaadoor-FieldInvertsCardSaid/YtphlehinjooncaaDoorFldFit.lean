/-
  The contract of the reference's fit. Condition: limbs of at most 2^48.
-/
import Derived.Test.YtphlehinjooncaaDoorFldBlk
import Derived.Test.YtphlehinjooncaaDoorFldFitM
set_option linter.unusedVariables false
set_option linter.unusedSimpArgs false
namespace Go.Proofs.YtphlehinjooncaaDoor
open Go Go.Proofs Go.RowKit F5

theorem infoF : (Tryd.prog.info? 35).map (·.size) = some 16 := by kernel_rfl
theorem u64s_info {l : List Nat} (h : l.length = 16) : (Tryd.prog.info? 35).map (·.size) = some (u64s l).size := by rw [u64s_size, h]; exact infoF
theorem Blk.u64 {w : World} {g t : Nat} {L : List Nat} (h : Blk w g t (u64s L)) (i : Nat) (hi : i < L.length) : w.cell? ⟨g, i, none⟩ = some (.int .u64 ((L.getD i 0 : Nat) : Int)) := (h.cell i).trans (u64s_get _ _ hi)
theorem Blk.u64set {w : World} {g t : Nat} {L : List Nat} (h : Blk w g t (u64s L)) (i x : Nat) : Blk (w.setCell ⟨g, i, none⟩ (.int .u64 (x : Int))) g t (u64s (L.set i x)) := by
  have := h.set_ i (.int .u64 (x : Int))
  rwa [u64s_set] at this

/-- x lies in block g, what else was made is kept. -/
def FitAt (g : Nat) (L : List Nat) (w wr : World) : Prop :=
  Blk wr g 35 (u64s L) ∧ Blk wr (w.heap.size + 1) 35 (u64s (List.replicate 16 0)) ∧ Below w.heap.size w wr
theorem FitAt.set {g i x : Nat} {L : List Nat} {w wr : World} (h : FitAt g L w wr) (hg : w.heap.size ≤ g) (hne : g ≠ w.heap.size + 1) : FitAt g (L.set i x) w (wr.setCell ⟨g, i, none⟩ (.int .u64 (x : Int))) :=
  ⟨h.1.u64set i x, h.2.1.far (fun e => hne e.symm) _, h.2.2.setCell hg _⟩
theorem set_set (L : List Nat) (i x y : Nat) : (L.set i x).set i y = L.set i y := by simp

set_option maxHeartbeats 8000000 in
set_option maxRecDepth 100000 in
theorem fit_any (A : List Nat) (hA : A.length = 16) (hs : Small A) (w : World) :
    Calls Tryd.prog 30 #[.agg (u64s A)] w fun e w' => e = .returned (.agg (u64s (digs B (val B A % P) 16))) ∧ Below w.heap.size w w' := by
  have hal : Tryd.prog.arrayLen 35 = 16 := by kernel_rfl
  have hel : Tryd.prog.elem 35 = 23 := by kernel_rfl
  obtain ⟨z, hz⟩ : ∃ z, Hid (z = u64s (List.replicate 16 0)) := ⟨_, Lib.hid rfl⟩
  have hz0 : ∀ W, (zeroValue 35).run Tryd.prog W = .ok (.agg z) W := by
    rw [hz.out]; exact (zero_of_info (n := 16) (by kernel_rfl)).1
  have HA := Lib.hid hA
  have HS := Lib.hid hs
  clear hA hs
  obtain ⟨ca, hca⟩ : ∃ c, Hid (c = u64s A) := ⟨_, Lib.hid rfl⟩
  rw [← hca.out]
  go_enter Tryd.func30, Tryd.ntmps30
  go_wp2
  go_loopg [3] 3 (fun g tv wr => ∃ t A', tv = .int .i64 (t : Nat) ∧ g + t = 3 ∧ A'.length = 16 ∧ Small A' ∧ val B A' = foldN' t (val B A) ∧ FitAt w.heap.size A' w wr)
  case atStart =>
    refine ⟨0, A, rfl, rfl, HA.out, HS.out, rfl, ?_, ?_, ((Below.refl _ _).alloc (Nat.le_refl _) _).alloc (by simp) _⟩
    · rw [← hca.out]; exact (Blk.new w _ ca).alloc _
    · rw [← hz.out]
      have := Blk.new (w.alloc (.cells ca 35)) 35 z
      rwa [show (w.alloc (.cells ca 35)).heap.size = w.heap.size + 1 by simp] at this
  case round =>
    obtain ⟨t, A', rfl, hg, hA', hS', hv, hF⟩ := hrel
    have hz0 := hz0
    by_cases hlt : t < 3
    · obtain ⟨G, hG⟩ : ∃ G, Hid (gk = G + 1 ∧ G + (t + 1) = 3) := ⟨gk - 1, Lib.hid ⟨by omega, by omega⟩⟩
      have HA' := Lib.hid hA'
      have HS' := Lib.hid hS'
      have HV := Lib.hid hv
      have HF := Lib.hid hF
      clear hg hA' hS' hv hF
      go_wp2
      go_loopg [4, 5] 16 (fun g cv iv w1 => ∃ i c L, cv = .int .u64 (c : Nat) ∧ iv = .int .i64 (i : Nat) ∧ g + i = 16 ∧ c ≤ 8589934592 ∧ Pass A' i L c ∧ FitAt w.heap.size L w w1)
      case atStart => exact ⟨0, 0, A', rfl, rfl, rfl, by omega, Pass.zero A', HF.out⟩
      case round =>
        obtain ⟨i, c, L, rfl, rfl, hgi, hc, hp, hf⟩ := hrel
        by_cases hi : i < 16
        · have hLl : L.length = 16 := hp.1.trans HA'.out
          have hAi := hp.2.2.1 i (Nat.le_refl _)
          have hx := hf.1.u64 i (by omega)
          have hfz := hf.1.frozen i
          obtain ⟨x, hX⟩ := named (L.getD i 0)
          rw [← hX.out] at hx hAi
          have hxs : x ≤ 281474976710656 := by rw [hAi]; exact HS'.out i
          obtain ⟨s, hs⟩ := named (x + c)
          obtain ⟨q, hq⟩ := named (s / 65536)
          obtain ⟨r, hr⟩ := named (s % 65536)
          have cs := wrap_sum x c s (by rw [hs.out]; unfold M; omega)
          have d1 : (s : Int) / 65536 = (q : Int) := by rw [hq.out]; omega
          have d2 : (s : Int).tdiv 65536 = (q : Int) := by rw [Int.tdiv_eq_ediv_of_nonneg (by omega)]; omega
          have d3 : (s : Int) % 65536 = (r : Int) := by rw [hr.out]; omega
          have d4 : (s : Int).tmod 65536 = (r : Int) := by rw [Int.tmod_eq_emod_of_nonneg (by omega)]; omega
          have hq1 : q ≤ 8589934592 := by rw [hq.out, hs.out]; omega
          have hnp : Hid (Pass A' (i + 1) (L.set i r) q) := Lib.hid (by
            have := hp.next (by rw [HA'.out]; exact hi) (show s = A'.getD i 0 + c by rw [hs.out, hAi])
            rw [hq.out, hr.out]; exact this)
          have hnf : Hid (FitAt w.heap.size (L.set i r) w ((wr.setCell ⟨w.heap.size, i, none⟩ (.int .u64 (s : Int))).setCell ⟨w.heap.size, i, none⟩ (.int .u64 (r : Int)))) := Lib.hid (by
            have := (hf.set (i := i) (x := s) (Nat.le_refl _) (by omega)).set (i := i) (x := r) (Nat.le_refl _) (by omega)
            rwa [set_set] at this)
          have HC := Lib.hid hc
          have HXS := Lib.hid hxs
          clear hp hf hLl hAi hc hxs
          go_wp2
          go_roundg (gk - 1)
          case measure => omega
          case rel => exact ⟨i + 1, q, L.set i r, rfl, by go_num, by omega, hq1, hnp.out, hnf.out⟩
        · obtain rfl : i = 16 := by omega
          have hLl : L.length = 16 := hp.1.trans HA'.out
          have hLa := hp.all HA'.out
          have h15 := hf.1.u64 15 (by omega)
          have h0 := hf.1.u64 0 (by omega)
          have hz15 := hf.1.frozen 15
          have hzf0 := hf.1.frozen 0
          have l15 := hLa.getD (by decide) 15
          have l0 := hLa.getD (by decide) 0
          obtain ⟨x, hX⟩ := named (L.getD 15 0)
          obtain ⟨y, hY⟩ := named (L.getD 0 0)
          rw [← hX.out] at h15 l15
          rw [← hY.out] at h0 l0
          obtain ⟨u2, hu2⟩ := named (2 * c)
          obtain ⟨q, hq⟩ := named (x / 32768)
          obtain ⟨ov, hov⟩ := named (u2 + q)
          obtain ⟨m, hm⟩ := named (x % 32768)
          obtain ⟨no, hno⟩ := named (19 * ov)
          obtain ⟨s, hs⟩ := named (y + no)
          have c1 : IntKind.u64.wrap (2 * (c : Int)) = (u2 : Int) := by rw [IntKind.wrap_u64, hu2.out]; omega
          have cq : IntKind.u64.wrap (q : Int) = (q : Int) := by rw [IntKind.wrap_u64, hq.out]; unfold B at *; omega
          have c2 := wrap_sum u2 q ov (by rw [hov.out, hu2.out, hq.out]; unfold M B at *; omega)
          have c3 : IntKind.u64.wrap (19 * (ov : Int)) = (no : Int) := by rw [IntKind.wrap_u64, hno.out, hov.out, hu2.out, hq.out]; unfold B at *; omega
          have c4 := wrap_sum y no s (by rw [hs.out, hno.out, hov.out, hu2.out, hq.out]; unfold M B at *; omega)
          have d1 : (x : Int) / 32768 = (q : Int) := by rw [hq.out]; omega
          have d2 : (x : Int).tdiv 32768 = (q : Int) := by rw [Int.tdiv_eq_ediv_of_nonneg (by omega)]; omega
          have d3 : (x : Int) % 32768 = (m : Int) := by rw [hm.out]; omega
          have d4 : (x : Int).tmod 32768 = (m : Int) := by rw [Int.tmod_eq_emod_of_nonneg (by omega)]; omega
          obtain ⟨hv', hS''⟩ := turn_end (ov := ov) HA'.out hp hc (by rw [hov.out, hu2.out, hq.out, hX.out])
          have e0 : (L.set 15 (L.getD 15 0 % 32768)).getD 0 0 + 19 * ov = s := by rw [F5.getD_set_ne _ _ (by omega), hs.out, hno.out, hY.out]
          rw [e0, ← hX.out, ← hm.out] at hv' hS''
          have hnf : Hid (FitAt w.heap.size ((L.set 15 m).set 0 s) w ((wr.setCell ⟨w.heap.size, 15, none⟩ (.int .u64 (m : Int))).setCell ⟨w.heap.size, 0, none⟩ (.int .u64 (s : Int)))) :=
            Lib.hid ((hf.set (i := 15) (x := m) (Nat.le_refl _) (by omega)).set (i := 0) (x := s) (Nat.le_refl _) (by omega))
          have hlen : Hid (((L.set 15 m).set 0 s).length = 16) := Lib.hid (by simpa using hLl)
          have HV' := Lib.hid (show val B ((L.set 15 m).set 0 s) = foldN' (t + 1) (val B A) by rw [hv', HV.out]; rfl)
          have HS2 := Lib.hid hS''
          have HC := Lib.hid hc
          clear hp hf hLa hLl l15 l0 hv' hS'' e0 hc
          go_wp2
          go_roundg G
          case measure => have := hG.out; omega
          case rel => exact ⟨t + 1, (L.set 15 m).set 0 s, by go_num, hG.out.2, hlen.out, HS2.out, HV'.out, hnf.out⟩
    · obtain rfl : t = 3 := by omega
      have hlt3 := fold3_lt (val B A) (val_lt16 HA.out HS.out)
      have hmod := foldN'_mod 3 (val B A)
      rw [← hv] at hlt3 hmod
      have HV3 := Lib.hid hlt3
      have HMOD := Lib.hid hmod
      have HA' := Lib.hid hA'
      have HS' := Lib.hid hS'
      have HF := Lib.hid hF
      clear hg hA' hS' hv hF hlt3 hmod
      go_wp2
      go_loopg [7, 8] 16 (fun g cv iv w1 => ∃ i c L, cv = .int .u64 (c : Nat) ∧ iv = .int .i64 (i : Nat) ∧ g + i = 16 ∧ c ≤ 8589934592 ∧ Pass A' i L c ∧ FitAt w.heap.size L w w1)
      case atStart => exact ⟨0, 0, A', rfl, rfl, rfl, by omega, Pass.zero A', HF.out⟩
      case round =>
        obtain ⟨i, c, L, rfl, rfl, hgi, hc, hp, hf⟩ := hrel
        by_cases hi : i < 16
        · have hLl : L.length = 16 := hp.1.trans HA'.out
          have hAi := hp.2.2.1 i (Nat.le_refl _)
          have hx := hf.1.u64 i (by omega)
          have hfz := hf.1.frozen i
          obtain ⟨x, hX⟩ := named (L.getD i 0)
          rw [← hX.out] at hx hAi
          have hxs : x ≤ 281474976710656 := by rw [hAi]; exact HS'.out i
          obtain ⟨s, hs⟩ := named (x + c)
          obtain ⟨q, hq⟩ := named (s / 65536)
          obtain ⟨r, hr⟩ := named (s % 65536)
          have cs := wrap_sum x c s (by rw [hs.out]; unfold M; omega)
          have d1 : (s : Int) / 65536 = (q : Int) := by rw [hq.out]; omega
          have d2 : (s : Int).tdiv 65536 = (q : Int) := by rw [Int.tdiv_eq_ediv_of_nonneg (by omega)]; omega
          have d3 : (s : Int) % 65536 = (r : Int) := by rw [hr.out]; omega
          have d4 : (s : Int).tmod 65536 = (r : Int) := by rw [Int.tmod_eq_emod_of_nonneg (by omega)]; omega
          have hq1 : q ≤ 8589934592 := by rw [hq.out, hs.out]; omega
          have hnp : Hid (Pass A' (i + 1) (L.set i r) q) := Lib.hid (by
            have := hp.next (by rw [HA'.out]; exact hi) (show s = A'.getD i 0 + c by rw [hs.out, hAi])
            rw [hq.out, hr.out]; exact this)
          have hnf : Hid (FitAt w.heap.size (L.set i r) w ((wr.setCell ⟨w.heap.size, i, none⟩ (.int .u64 (s : Int))).setCell ⟨w.heap.size, i, none⟩ (.int .u64 (r : Int)))) := Lib.hid (by
            have := (hf.set (i := i) (x := s) (Nat.le_refl _) (by omega)).set (i := i) (x := r) (Nat.le_refl _) (by omega)
            rwa [set_set] at this)
          have HC := Lib.hid hc
          have HXS := Lib.hid hxs
          clear hp hf hLl hAi hc hxs
          go_wp2
          go_roundg (gk - 1)
          case measure => omega
          case rel => exact ⟨i + 1, q, L.set i r, rfl, by go_num, by omega, hq1, hnp.out, hnf.out⟩
        · obtain rfl : i = 16 := by omega
          obtain ⟨hLd, rfl⟩ := pass_digs HA'.out hp (Nat.lt_trans HV3.out (by decide))
          subst hLd
          clear hp hgi hc
          obtain ⟨v, hv⟩ := named (val B A')
          rw [← hv.out] at hf
          have hvl : v < 2 ^ 255 := by rw [hv.out]; exact HV3.out
          have HFx := Lib.hid hf
          clear hf HF
          have hXl : (digs B v 16).length = 16 := digs_length _ _ _
          have h0v := (digs_all (by decide) v 16 : All B _).getD (by decide) 0
          have hset := set0_val hvl
          have htk := take_p hvl
          obtain ⟨X, hX⟩ : ∃ X, Hid (X = digs B v 16) := ⟨_, Lib.hid rfl⟩
          rw [← hX.out] at HFx hXl h0v hset htk
          obtain ⟨fx1, fx2, fx3⟩ := HFx.out
          have F1 := Lib.hid fx1
          have F2 := Lib.hid fx2
          have F3 := Lib.hid fx3
          have HXL := Lib.hid hXl
          have HSET := Lib.hid hset
          have HTK := Lib.hid htk
          obtain ⟨y0, hy0⟩ := named (X.getD 0 0)
          rw [← hy0.out] at h0v
          obtain ⟨y1, hy1⟩ := named (y0 + 19)
          have c19 : IntKind.u64.wrap ((y0 : Int) + 19) = (y1 : Int) := by rw [IntKind.wrap_u64, hy1.out]; unfold B at h0v; omega
          have hYn := Blk.new wr 35 (u64s X)
          have hcy := hYn.u64 0 (by omega)
          rw [← hy0.out] at hcy
          have hszr : w.heap.size + 1 < wr.heap.size := fx2.lt
          have hzz : Hid ((u64s (List.replicate 16 0)).size = (u64s X).size) := Lib.hid (by rw [u64s_size, u64s_size, HXL.out]; rfl)
          have hinf := Lib.hid (u64s_info (l := X) HXL.out)
          have hone := Lib.hid (u64s_one X)
          have hz1 : Hid (u64s (List.replicate 16 0) = z) := Lib.hid hz.out.symm
          rw [hz1.out] at hzz
          clear fx1 fx2 fx3 hXl hset htk hYn hi HFx
          go_wp2_with (first | (refine wpList_load_row rfl 35 (.tmp 1) rfl w.heap.size rfl 35 (u64s X) (0, 0) _ F1.out Tryd.underlying35 rfl hinf.out ?_) |
            (refine wpList_store_row rfl 35 (.tmp 9) (.tmp 73) rfl wr.heap.size (u64s X) rfl rfl 35 z (heap_alloc_new wr _) hinf.out hzz.out hone.out ?_; rw [setRow_alloc1]))
          have hYb := Blk.new wr 35 ((u64s X).setIfInBounds 0 (.int .u64 (y1 : Int)))
          have hX1 := F1.out.alloc (.cells ((u64s X).setIfInBounds 0 (.int .u64 (y1 : Int))) 35)
          have hR1 := F2.out.alloc (.cells ((u64s X).setIfInBounds 0 (.int .u64 (y1 : Int))) 35)
          have hB1 := F3.out.alloc F3.out.size (.cells ((u64s X).setIfInBounds 0 (.int .u64 (y1 : Int))) 35)
          have hYe : (u64s X).setIfInBounds 0 (.int .u64 (y1 : Int)) = u64s (X.set 0 y1) := u64s_set X 0 y1
          have hst : Hid (FitAt wr.heap.size (X.set 0 y1) w (wr.alloc (.cells ((u64s X).setIfInBounds 0 (.int .u64 (y1 : Int))) 35)) ∧ Blk (wr.alloc (.cells ((u64s X).setIfInBounds 0 (.int .u64 (y1 : Int))) 35)) w.heap.size 35 (u64s X)) := Lib.hid ⟨⟨by rw [← hYe]; exact hYb, hR1, hB1⟩, hX1⟩
          have hSm : Hid (Small (X.set 0 y1)) := Lib.hid (fun j => by
            by_cases hj : j = 0
            · subst hj; rw [getD_set_eq _ _ (by rw [HXL.out]; omega), hy1.out]; unfold B at h0v; omega
            · rw [F5.getD_set_ne _ _ (by omega), hX.out]
              have := (digs_all (by decide) v 16 : All B _).getD (by decide) j
              exact Nat.le_of_lt (Nat.lt_trans this (by decide)))
          have hYv : Hid (val B (X.set 0 y1) = v + 19) := Lib.hid (by rw [hy1.out, hy0.out]; exact HSET.out)
          have hYl : Hid ((X.set 0 y1).length = 16) := Lib.hid (by simpa using HXL.out)
          clear hYb hX1 hR1 hB1 hcy hYe
          generalize wr.alloc (.cells ((u64s X).setIfInBounds 0 (.int .u64 (y1 : Int))) 35) = W4 at *
          generalize wr.heap.size = gy at *
          obtain ⟨Y, hY⟩ : ∃ Y, Hid (Y = X.set 0 y1) := ⟨_, Lib.hid rfl⟩
          rw [← hY.out] at hst hSm hYv hYl
          clear hz0 c19
          go_loopg [7, 10] 16 (fun g cv iv w1 => ∃ i c L, cv = .int .u64 (c : Nat) ∧ iv = .int .i64 (i : Nat) ∧ g + i = 16 ∧ c ≤ 8589934592 ∧ Pass Y i L c ∧ FitAt gy L w w1 ∧ Blk w1 w.heap.size 35 (u64s X))
          case atStart => exact ⟨0, 0, Y, rfl, rfl, rfl, by omega, Pass.zero Y, hst.out⟩
          case round =>
            obtain ⟨i, c, L, rfl, rfl, hgi, hc, hp, hf, hxb⟩ := hrel
            by_cases hi : i < 16
            · have hLl : L.length = 16 := hp.1.trans hYl.out
              have hAi := hp.2.2.1 i (Nat.le_refl _)
              have hx := hf.1.u64 i (by omega)
              have hfz := hf.1.frozen i
              obtain ⟨x, hxx⟩ := named (L.getD i 0)
              rw [← hxx.out] at hx hAi
              have hxs : x ≤ 281474976710656 := by rw [hAi]; exact hSm.out i
              obtain ⟨s, hs⟩ := named (x + c)
              obtain ⟨q, hq⟩ := named (s / 65536)
              obtain ⟨r, hr⟩ := named (s % 65536)
              have cs := wrap_sum x c s (by rw [hs.out]; unfold M; omega)
              have d1 : (s : Int) / 65536 = (q : Int) := by rw [hq.out]; omega
              have d2 : (s : Int).tdiv 65536 = (q : Int) := by rw [Int.tdiv_eq_ediv_of_nonneg (by omega)]; omega
              have d3 : (s : Int) % 65536 = (r : Int) := by rw [hr.out]; omega
              have d4 : (s : Int).tmod 65536 = (r : Int) := by rw [Int.tmod_eq_emod_of_nonneg (by omega)]; omega
              have hq1 : q ≤ 8589934592 := by rw [hq.out, hs.out]; omega
              have hnp : Hid (Pass Y (i + 1) (L.set i r) q) := Lib.hid (by
                have := hp.next (by rw [hYl.out]; exact hi) (show s = Y.getD i 0 + c by rw [hs.out, hAi])
                rw [hq.out, hr.out]; exact this)
              have hnf : Hid (FitAt gy (L.set i r) w ((wr.setCell ⟨gy, i, none⟩ (.int .u64 (s : Int))).setCell ⟨gy, i, none⟩ (.int .u64 (r : Int)))) := Lib.hid (by
                have := (hf.set (i := i) (x := s) (by omega) (by omega)).set (i := i) (x := r) (by omega) (by omega)
                rwa [set_set] at this)
              have hnx : Hid (Blk ((wr.setCell ⟨gy, i, none⟩ (.int .u64 (s : Int))).setCell ⟨gy, i, none⟩ (.int .u64 (r : Int))) w.heap.size 35 (u64s X)) := Lib.hid ((hxb.far (by show w.heap.size ≠ gy; omega) _).far (by show w.heap.size ≠ gy; omega) _)
              have HC := Lib.hid hc
              have HXS := Lib.hid hxs
              clear hp hf hLl hAi hc hxs hxb
              go_wp2
              go_roundg (gk - 1)
              case measure => omega
              case rel => exact ⟨i + 1, q, L.set i r, rfl, by go_num, by omega, hq1, hnp.out, hnf.out, hnx.out⟩
            · obtain rfl : i = 16 := by omega
              obtain ⟨hLd, rfl⟩ := pass_digs hYl.out hp (by rw [hYv.out]; omega)
              rw [hYv.out] at hLd
              have hLl : L.length = 16 := by rw [hLd]; exact digs_length _ _ _
              have ht := hf.1.u64 15 (by omega)
              have hfz := hf.1.frozen 15
              have htl := (digs_all (by decide) (v + 19) 16 : All B _).getD (by decide) 15
              obtain ⟨hT1, hT2⟩ := HTK.out
              rw [← hLd] at hT1 htl hT2
              obtain ⟨t15, ht15⟩ := named (L.getD 15 0)
              rw [← ht15.out] at ht htl hT1 hT2
              have hone2 := Lib.hid (u64s_one (L.set 15 (t15 - 32768)))
              have hinf2 : Hid ((Tryd.prog.info? 35).map (·.size) = some (u64s (L.set 15 (t15 - 32768))).size) := Lib.hid (u64s_info (by simpa using hLl))
              have hzz2 : Hid ((u64s (List.replicate 16 0)).size = (u64s (L.set 15 (t15 - 32768))).size) := Lib.hid (by rw [u64s_size, u64s_size, List.length_set, hLl]; rfl)
              have hzz1 : Hid ((u64s (List.replicate 16 0)).size = (u64s X).size) := Lib.hid (by rw [u64s_size, u64s_size, HXL.out]; rfl)
              have hRES : Hid (digs B (v % P) 16 = digs B (val B A % P) 16) := Lib.hid (by rw [hv.out, HMOD.out])
              by_cases hge : 32768 ≤ t15
              · have hd : decide (32768 ≤ (t15 : Int)) = true := by simp; omega
                have csub : IntKind.u64.wrap ((t15 : Int) - 32768) = ((t15 - 32768 : Nat) : Int) := by rw [IntKind.wrap_u64]; unfold B at htl; omega
                have hfin := hf.set (i := 15) (x := t15 - 32768) (by omega) (by omega)
                have HY2 := Lib.hid hfin
                have HT := Lib.hid (hT1 hge)
                clear hp hf hxb hT1 hT2 hLd hfin
                obtain ⟨d15, hd15⟩ := named (t15 - 32768)
                rw [← hd15.out] at HY2 HT csub hone2 hinf2 hzz2
                have HTL := Lib.hid htl
                clear htl hgi
                go_wp2_with (first | (refine wpList_load_row rfl 35 (.tmp 9) rfl gy rfl 35 (u64s (L.set 15 d15)) (0, 0) _ HY2.out.1 Tryd.underlying35 rfl hinf2.out ?_) |
                  (refine wpList_store_row rfl 35 (.tmp 2) (.tmp 106) rfl (w.heap.size + 1) (u64s (L.set 15 d15)) rfl rfl 35 _ HY2.out.2.1 hinf2.out hzz2.out hone2.out ?_))
                refine bodyPost_ret (v := .agg (u64s (L.set 15 d15))) ?_ rfl ⟨by rw [HT.out, hRES.out], below_row HY2.out.2.2 (by omega) _⟩
                exact results_cell_row Tryd.results30 _ _ (w.heap.size + 1) 35 _ (0, 0) _ rfl (HY2.out.2.1.row _) Tryd.underlying35 rfl hinf2.out
              · have hd : decide (32768 ≤ (t15 : Int)) = false := by simp; omega
                have HY2 := Lib.hid hf
                have HXB := Lib.hid hxb
                have HT := Lib.hid (hT2 (by omega))
                clear hp hf hxb hT1 hT2 hLd hgi
                have HTL := Lib.hid htl
                clear htl hge
                go_wp2_with (first | (refine wpList_load_row rfl 35 (.tmp 1) rfl w.heap.size rfl 35 (u64s X) (0, 0) _ HXB.out Tryd.underlying35 rfl hinf.out ?_) |
                  (refine wpList_store_row rfl 35 (.tmp 2) (.tmp 107) rfl (w.heap.size + 1) (u64s X) rfl rfl 35 _ HY2.out.2.1 hinf.out hzz1.out hone.out ?_))
                refine bodyPost_ret (v := .agg (u64s X)) ?_ rfl ⟨by rw [HT.out, hRES.out], below_row HY2.out.2.2 (by omega) _⟩
                exact results_cell_row Tryd.results30 _ _ (w.heap.size + 1) 35 _ (0, 0) _ rfl (HY2.out.2.1.row _) Tryd.underlying35 rfl hinf.out
end Go.Proofs.YtphlehinjooncaaDoor
