/-
  The contract of the reference's product. Conditions: numbers below 2^256.
-/
import Derived.Test.YtphlehinjooncaaDoorFldRefA
set_option linter.unusedVariables false
set_option linter.unusedSimpArgs false
namespace Go.Proofs.YtphlehinjooncaaDoor
open Go Go.Proofs Go.RowKit F5

/-- Four new blocks: both factors, the result, and the product's limbs. -/
def Four (w : World) (n m : Nat) (z : Array Value) (L : List Nat) (wr : World) : Prop :=
  Two3 w (limF n) (limF m) z wr ∧ Blk wr (w.heap.size + 3) 61 (u64s L)
theorem Four.drew {w wr : World} {n m : Nat} {z : Array Value} {L : List Nat} (h : Four w n m z L wr) : Four w n m z L wr.drew := ⟨h.1.drew, h.2.drew⟩
theorem Four.set {w wr : World} {n m : Nat} {z : Array Value} {L : List Nat} (h : Four w n m z L wr) (i s : Nat) : Four w n m z (L.set i s) (wr.setCell ⟨w.heap.size + 3, i, none⟩ (.int .u64 (s : Int))) :=
  ⟨⟨h.1.1.far (by show w.heap.size ≠ w.heap.size + 3; omega) _, h.1.2.1.far (by show w.heap.size + 1 ≠ w.heap.size + 3; omega) _, h.1.2.2.1.far (by show w.heap.size + 2 ≠ w.heap.size + 3; omega) _, h.1.2.2.2.setCell (by show w.heap.size ≤ w.heap.size + 3; omega) _⟩, h.2.u64set i s⟩
theorem Four.next {w wr w' : World} {n m : Nat} {z : Array Value} {L : List Nat} (h : Four w n m z L wr) (hb : Below wr.heap.size wr w') : Four w n m z L w' := ⟨h.1.next hb, h.2.old hb⟩
theorem heap_alloc4_new (w : World) (a b c d : Array Value) (T1 T2 : TypeId) : Blk ((((w.alloc (.cells a T1)).alloc (.cells b T1)).alloc (.cells c T1)).alloc (.cells d T2)) (w.heap.size + 3) T2 d := by
  have h := Blk.new (((w.alloc (.cells a T1)).alloc (.cells b T1)).alloc (.cells c T1)) T2 d
  rwa [show (((w.alloc (.cells a T1)).alloc (.cells b T1)).alloc (.cells c T1)).heap.size = w.heap.size + 3 by simp] at h
/-- The sum with what counts 38 times, its first i limbs done. -/
def OutAt (w : World) (n m : Nat) (z : Array Value) (L : List Nat) (g : Nat) (i : Nat) (wr : World) : Prop :=
  Four w n m z L wr ∧ Blk wr g 35 (u64s (partN (foldL L) i)) ∧ w.heap.size + 3 < g
theorem OutAt.drew {w wr : World} {n m g i : Nat} {z : Array Value} {L : List Nat} (h : OutAt w n m z L g i wr) : OutAt w n m z L g i wr.drew := ⟨h.1.drew, h.2.1.drew, h.2.2⟩
theorem Four.far {w wr : World} {n m g : Nat} {z : Array Value} {L : List Nat} (h : Four w n m z L wr) (hg : w.heap.size + 3 < g) (i : Nat) (v : Value) : Four w n m z L (wr.setCell ⟨g, i, none⟩ v) :=
  ⟨⟨h.1.1.far (by show w.heap.size ≠ g; omega) _, h.1.2.1.far (by show w.heap.size + 1 ≠ g; omega) _, h.1.2.2.1.far (by show w.heap.size + 2 ≠ g; omega) _, h.1.2.2.2.setCell (by show w.heap.size ≤ g; omega) _⟩, h.2.far (by show w.heap.size + 3 ≠ g; omega) _⟩
theorem info32u : (Tryd.prog.info? 61).map (·.size) = some 32 := by kernel_rfl

set_option maxHeartbeats 8000000 in
set_option maxRecDepth 100000 in
theorem refMul_any (n m : Nat) (hn : n < 2 ^ 256) (hm : m < 2 ^ 256) (w : World) :
    Calls Tryd.prog 22 #[refV n, refV m] w fun e w' => e = .returned (refV (n * m % P)) ∧ Below w.heap.size w w' := by
  have hal : Tryd.prog.arrayLen 35 = 16 := by kernel_rfl
  have hel : Tryd.prog.elem 35 = 23 := by kernel_rfl
  have hal2 : Tryd.prog.arrayLen 61 = 32 := by kernel_rfl
  have hel2 : Tryd.prog.elem 61 = 23 := by kernel_rfl
  unfold refV
  obtain ⟨cn, hcn⟩ : ∃ c, Hid (c = limF n) := ⟨_, Lib.hid rfl⟩
  obtain ⟨cm, hcm⟩ : ∃ c, Hid (c = limF m) := ⟨_, Lib.hid rfl⟩
  rw [← hcn.out, ← hcm.out]
  obtain ⟨z, hz⟩ : ∃ z, Hid (z = limF 0) := ⟨_, Lib.hid rfl⟩
  have hz0 : ∀ W, (zeroValue 35).run Tryd.prog W = .ok (.agg z) W := by
    rw [hz.out, ← zero16]; exact (zero_of_info (n := 16) (by kernel_rfl)).1
  obtain ⟨z2, hz2⟩ : ∃ z, Hid (z = u64s (List.replicate 32 0)) := ⟨_, Lib.hid rfl⟩
  have hz20 : ∀ W, (zeroValue 61).run Tryd.prog W = .ok (.agg z2) W := by
    rw [hz2.out]; exact (zero_of_info (n := 32) (by kernel_rfl)).1
  have hzi : Hid ((Tryd.prog.info? 35).map (·.size) = some z.size) := by rw [hz.out]; exact Lib.hid (limF_info 0)
  have hz1 : Hid (z.all (·.oneCell') = true) := by rw [hz.out]; exact Lib.hid (limF_one 0)
  have hzi2 : Hid ((Tryd.prog.info? 61).map (·.size) = some z2.size) := by rw [hz2.out, u64s_size]; exact Lib.hid info32u
  have hz12 : Hid (z2.all (·.oneCell') = true) := by rw [hz2.out]; exact Lib.hid (u64s_one _)
  have HM := Lib.hid hm
  have HN := Lib.hid hn
  have h3 : Four w n m z (List.replicate 32 0) ((((w.alloc (.cells cn 35)).alloc (.cells cm 35)).alloc (.cells z 35)).alloc (.cells z2 61)) := by
    have h := Two3.new w cn cm z
    have h2 := heap_alloc4_new w cn cm z z2 35 61
    rw [hcn.out, hcm.out] at h h2 ⊢
    refine ⟨h.next ((Below.refl _ _).alloc (Nat.le_refl _) _), ?_⟩
    rw [← hz2.out]; exact h2
  have H3 := Lib.hid h3
  clear hm hn h3
  go_enter Tryd.func22, Tryd.ntmps22
  go_wp2_with (first | (refine wpList_store_row rfl 61 (.tmp 5) (.tmp 10) rfl (w.heap.size + 3) z2 rfl rfl 61 z2 (heap_alloc4_new w _ _ _ _ _ _) hzi2.out rfl hz12.out ?_; rw [setRow_self (heap_alloc4_new w _ _ _ _ _ _)]))
  generalize (((w.alloc (.cells cn 35)).alloc (.cells cm 35)).alloc (.cells z 35)).alloc (.cells z2 61) = W at *
  clear hz20
  go_loopg [6] 16 (fun g iv wr => ∃ i L, iv = .int .i64 (i : Nat) ∧ g + i = 16 ∧ MulL n m i 0 L ∧ Four w n m z L wr)
  case atStart => exact ⟨0, _, rfl, rfl, MulL.zero, H3.out⟩
  case round =>
    obtain ⟨i, L, rfl, hg, hL, hT⟩ := hrel
    clear H3
    by_cases hlt : i < 16
    · obtain ⟨G, hG⟩ : ∃ G, Hid (gk = G + 1 ∧ G + (i + 1) = 16) := ⟨gk - 1, Lib.hid ⟨by omega, by omega⟩⟩
      have HL := Lib.hid hL
      have HT := Lib.hid hT
      clear hL hT hg hz0
      go_wp2
      go_loopg [7] 16 (fun g kv w1 => ∃ k L1, kv = .int .i64 (k : Nat) ∧ g + k = 16 ∧ MulL n m i k L1 ∧ Four w n m z L1 w1)
      case atStart => exact ⟨0, L, rfl, rfl, HL.out, HT.out⟩
      case round =>
        obtain ⟨k, L1, rfl, hgk, hL1, hT1⟩ := hrel
        clear HL HT
        by_cases hk : k < 16
        · have ha := hT1.2.u64 (i + k) (by rw [hL1.1]; omega)
          have hx : wr.cell? ⟨w.heap.size, i, none⟩ = some (.int .u64 (((digs B n 16).getD i 0 : Nat) : Int)) := hT1.1.1.u64 i (by rw [digs_length]; exact hlt)
          have hy : wr.cell? ⟨w.heap.size + 1, k, none⟩ = some (.int .u64 (((digs B m 16).getD k 0 : Nat) : Int)) := hT1.1.2.1.u64 k (by rw [digs_length]; exact hk)
          rw [digs_at hlt] at hx
          rw [digs_at hk] at hy
          have hf := hT1.2.frozen (i + k)
          have hal1 := hL1.2.1 (i + k)
          have hxl := lim_lt n i
          have hyl := lim_lt m k
          have hnl := hL1.next hlt hk
          obtain ⟨a, hA⟩ := named (L1.getD (i + k) 0)
          obtain ⟨x, hX⟩ := named (n / B ^ i % B)
          obtain ⟨y, hY⟩ := named (m / B ^ k % B)
          rw [← hA.out, ← hX.out, ← hY.out] at hnl
          rw [← hA.out] at ha hal1
          rw [← hX.out] at hx hxl
          rw [← hY.out] at hy hyl
          have hpl : x * y ≤ 65535 * 65535 := Nat.mul_le_mul (by unfold B at hxl; omega) (by unfold B at hyl; omega)
          obtain ⟨q, hq⟩ := named (x * y)
          rw [← hq.out] at hnl hpl
          have cq := wrap_mul x y q (by rw [hq.out] at hpl ⊢; unfold M; omega)
          obtain ⟨s, hs⟩ := named (a + q)
          have cs := wrap_sum a q s (by rw [hs.out]; unfold M; omega)
          rw [← hs.out] at hnl
          have i1 : IntKind.i64.wrap ((i : Int) + (k : Int)) = (i : Int) + (k : Int) := IntWalk.i64_in _ (by omega)
          have t0 : ((i : Int) + (k : Int)).toNat = i + k := by omega
          have q0 : (0 : Int) ≤ (i : Int) + (k : Int) := by omega
          have q2 : (i : Int) + (k : Int) < 32 := by omega
          have HNL := Lib.hid hnl
          have n1 := Lib.hid (hT1.set (i + k) s)
          have n2 := Lib.hid (hT1.drew.set (i + k) s)
          clear hT1 hL1 hnl hxl hyl hpl hal1
          go_wp2
          go_region
          have hnd := Lib.hid n1.out.drew
          clear n1
          go_wp2
          go_roundg (gk - 1)
          case measure => omega
          case rel => exact ⟨k + 1, L1.set (i + k) s, by go_num, by omega, HNL.out, (by first | exact hnd.out | exact n2.out)⟩
        · obtain rfl : k = 16 := by omega
          have HL1 := Lib.hid (hL1.row HM.out)
          have HT1 := Lib.hid hT1
          clear hL1 hT1
          go_wp2
          go_roundg G
          case measure => have := hG.out; omega
          case rel => exact ⟨i + 1, L1, by go_num, hG.out.2, HL1.out, HT1.out⟩
    · obtain rfl : i = 16 := by omega
      obtain ⟨hl, hsm, hv⟩ := hL.done HN.out
      have HT := Lib.hid hT
      have HL := Lib.hid hl
      have HB := Lib.hid hL.2.1
      have HS := Lib.hid hsm
      have HV := Lib.hid hv
      have hf3 := hT.2.lt
      have hO : OutAt w n m z L wr.heap.size 0 (wr.alloc (.cells z 35)) := by
        refine ⟨hT.next ((Below.refl _ _).alloc (Nat.le_refl _) _), ?_, hf3⟩
        rw [partN_zero, foldL_length hl, zero16, ← hz.out]
        exact Blk.new wr 35 z
      have HO := Lib.hid hO
      clear hT hL hl hsm hv hO
      go_wp2_with (first | (refine wpList_store_row rfl 35 (.tmp 8) (.tmp 36) rfl wr.heap.size z rfl rfl 35 z (Blk.new wr 35 z) hzi.out rfl hz1.out ?_; rw [setRow_self (Blk.new wr 35 z)]))
      have hFi := Lib.hid (u64s_info (foldL_length HL.out))
      generalize wr.alloc (.cells z 35) = W2 at *
      generalize wr.heap.size = g at *
      clear hf3 hz0
      go_loopg [9] 16 (fun gg iv w2 => ∃ i, iv = .int .i64 (i : Nat) ∧ gg + i = 16 ∧ OutAt w n m z L g i w2)
      case atStart => exact ⟨0, rfl, rfl, HO.out⟩
      case round =>
        obtain ⟨i, rfl, hgi, hO⟩ := hrel
        clear HO
        by_cases hi : i < 16
        · have hl := HL.out
          have ha := hO.1.2.u64 i (by omega)
          have hb := hO.1.2.u64 (i + 16) (by omega)
          have hx := hO.2.1.u64 i (by rw [partN_length (by rw [foldL_length hl]; omega), foldL_length hl]; exact hi)
          have hf := hO.2.1.frozen i
          have hal := HB.out i
          have hbl := HB.out (i + 16)
          have hfo := foldL_at hl hi
          obtain ⟨a, hA⟩ := named (L.getD i 0)
          obtain ⟨b, hB⟩ := named (L.getD (i + 16) 0)
          rw [← hA.out] at ha hal hfo
          rw [← hB.out] at hb hbl hfo
          obtain ⟨q, hq⟩ := named (38 * b)
          obtain ⟨s, hs⟩ := named (a + q)
          have cq : IntKind.u64.wrap (38 * (b : Int)) = (q : Int) := by rw [IntKind.wrap_u64, hq.out]; omega
          have cs := wrap_sum a q s (by rw [hs.out, hq.out]; unfold M; omega)
          have i1 : IntKind.i64.wrap ((i : Int) + 16) = (i : Int) + 16 := IntWalk.i64_in _ (by omega)
          have t0 : ((i : Int) + 16).toNat = i + 16 := by omega
          have q0 : (0 : Int) ≤ (i : Int) + 16 := by omega
          have q2 : (i : Int) + 16 < 32 := by omega
          have n1 : Hid (OutAt w n m z L g (i + 1) (wr.setCell ⟨g, i, none⟩ (.int .u64 (s : Int)))) := Lib.hid (by
            refine ⟨hO.1.far hO.2.2 _ _, ?_, hO.2.2⟩
            have := hO.2.1.u64set i s
            rw [show s = (foldL L).getD i 0 by rw [hfo, hs.out, hq.out], partN_set (by rw [foldL_length hl]; exact hi)] at this
            rw [show s = (foldL L).getD i 0 by rw [hfo, hs.out, hq.out]]
            exact this)
          obtain ⟨u, hu⟩ := named ((partN (foldL L) i).getD i 0)
          rw [← hu.out] at hx
          clear hO hal hbl hfo hl
          go_wp2
          go_region
          have hnd := Lib.hid n1.out.drew
          clear n1
          go_wp2
          go_roundg (gk - 1)
          case measure => omega
          case rel => exact ⟨i + 1, by go_num, by omega, hnd.out⟩
        · obtain rfl : i = 16 := by omega
          have e16 : partN (foldL L) 16 = foldL L := by
            have := partN_all (foldL L)
            rwa [foldL_length HL.out] at this
          have hb := hO.2.1
          rw [e16] at hb
          have HB2 := Lib.hid hb
          have HF := Lib.hid hO.1
          clear hO hb e16
          go_wp2_with (first | (refine wpList_load_row rfl 35 (.tmp 8) rfl g rfl 35 (u64s (foldL L)) (0, 0) _ HB2.out Tryd.underlying35 rfl hFi.out ?_))
          refine (fit_any (foldL L) (foldL_length HL.out) HS.out _).mono ?_
          rintro e w1 ⟨rfl, hb1⟩
          rw [HV.out, show u64s (digs B (n * m % P) 16) = limF (n * m % P) from rfl]
          have HT1 := Lib.hid (HF.out.next hb1)
          clear hb1
          have hRi2 := Lib.hid (limF_info (n * m % P))
          have hR12 := Lib.hid (limF_one (n * m % P))
          have hzz : Hid (z.size = (limF (n * m % P)).size) := Lib.hid (by rw [hz.out, limF_size, limF_size])
          obtain ⟨R, hR⟩ : ∃ R, Hid (R = limF (n * m % P)) := ⟨_, Lib.hid rfl⟩
          rw [← hR.out] at hRi2 hR12 hzz ⊢
          go_wp2_with (first | (refine wpList_store_row rfl 35 (.tmp 4) (.tmp 53) rfl (w.heap.size + 2) R rfl rfl 35 z HT1.out.1.2.2.1 hRi2.out hzz.out hR12.out ?_))
          refine bodyPost_ret (v := .agg R) ?_ rfl ⟨by rw [hR.out], below_row HT1.out.1.2.2.2 (by omega) _⟩
          exact results_cell_row Tryd.results22 _ _ (w.heap.size + 2) 35 R (0, 0) _ rfl ((HT1.out.1.2.2.1).row R) Tryd.underlying35 rfl hRi2.out
end Go.Proofs.YtphlehinjooncaaDoor
