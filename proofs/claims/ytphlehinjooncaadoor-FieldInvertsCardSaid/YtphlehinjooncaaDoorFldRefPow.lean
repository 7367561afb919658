/-
  The contracts of the reference's Power and Inv. Conditions: a number below p; small numbers to take away and to move down by.
-/
import Derived.Test.YtphlehinjooncaaDoorFldRefMul
import Derived.Test.YtphlehinjooncaaDoorFldTwo
set_option linter.unusedVariables false
set_option linter.unusedSimpArgs false
namespace F5
theorem bit_of (q i : Nat) : (q / B ^ (i / 16) % B) / 2 ^ (i % 16) % 2 = q / 2 ^ i % 2 := by
  have e1 : B ^ (i / 16) = 2 ^ (16 * (i / 16)) := by rw [show B = 2 ^ 16 from rfl, ← Nat.pow_mul]
  have e2 : 2 ^ i = 2 ^ (16 * (i / 16)) * 2 ^ (i % 16) := by rw [← Nat.pow_add, Nat.div_add_mod]
  rw [e1, e2, ← Nat.div_div_eq_div_mul]
  generalize q / 2 ^ (16 * (i / 16)) = x
  have hc : i % 16 < 16 := Nat.mod_lt _ (by decide)
  generalize i % 16 = c at hc
  have e3 : B = 2 ^ c * 2 ^ (16 - c) := by rw [← Nat.pow_add, show c + (16 - c) = 16 by omega]
  rw [e3, Nat.mod_mul, Nat.add_mul_div_left _ _ (Nat.two_pow_pos c), Nat.div_eq_of_lt (Nat.mod_lt _ (Nat.two_pow_pos c)), Nat.zero_add]
  exact Nat.mod_mod_of_dvd _ ⟨2 ^ (15 - c), by rw [← Nat.pow_succ', show (15 - c).succ = 16 - c by omega]⟩
theorem half_step (q i : Nat) : q / 2 ^ i = q / 2 ^ (i + 1) + q / 2 ^ (i + 1) + q / 2 ^ i % 2 := by
  rw [Nat.pow_succ, ← Nat.div_div_eq_div_mul]
  omega
theorem digs_less {less : Nat} (h : less ≤ 1000) : (digs B P 16).set 0 (65517 - less) = digs B (P - less) 16 := by
  have h0 : (digs B P 16).getD 0 0 = 65517 := by decide +kernel
  have hs := val_set B (digs B P 16) 0 (65517 - less) (by rw [digs_length]; omega)
  rw [h0, val16 (show P < 2 ^ 256 by decide), Nat.pow_zero] at hs
  refine digs_of ((digs_all (by decide) P 16).set (by unfold B; omega)) (by simp [digs_length]) ?_
  have : (65517 : Nat) ≤ P := by decide
  omega
end F5
namespace Go.Proofs.YtphlehinjooncaaDoor
open Go Go.Proofs Go.RowKit F5

/-- Four blocks: the number, the result, what the bits are taken of, and what has come of it. -/
def PowAt (w : World) (n : Nat) (z : Array Value) (q : Nat) (o : Array Value) (g : Nat) (wr : World) : Prop :=
  Two3 w (limF n) z (limF q) wr ∧ Blk wr g 35 o ∧ w.heap.size + 2 < g
theorem PowAt.next {w wr w' : World} {n q g : Nat} {z o : Array Value} (h : PowAt w n z q o g wr) (hb : Below wr.heap.size wr w') : PowAt w n z q o g w' := ⟨h.1.next hb, h.2.1.old hb, h.2.2⟩
theorem PowAt.row {w wr : World} {n q g : Nat} {z o : Array Value} (h : PowAt w n z q o g wr) (x : Array Value) : PowAt w n z q x g (wr.setRow g x) :=
  ⟨⟨h.1.1.rowFar (by have := h.2.2; omega) x, h.1.2.1.rowFar (by have := h.2.2; omega) x, h.1.2.2.1.rowFar (by have := h.2.2; omega) x, below_row h.1.2.2.2 (by have := h.2.2; omega) x⟩, h.2.1.row x, h.2.2⟩
theorem limF_ok3 (n : Nat) : (Tryd.prog.info? 35).map (·.size) = some (limF n).size ∧ (limF n).all (·.oneCell') = true := ⟨limF_info _, limF_one _⟩
theorem limF_sz (n m : Nat) : (limF n).size = (limF m).size := by rw [limF_size, limF_size]

set_option maxHeartbeats 16000000 in
set_option maxRecDepth 100000 in
theorem refPower_any (n less down : Nat) (hn : n < P) (hl : less ≤ 1000) (hd : down ≤ 255) (w : World) :
    Calls Tryd.prog 37 #[refV n, .int .u64 (less : Int), .int .i64 (down : Int)] w fun e w' => e = .returned (refV (pw n ((P - less) / 2 ^ down))) ∧ Below w.heap.size w w' := by
  have hal : Tryd.prog.arrayLen 35 = 16 := by kernel_rfl
  have hel : Tryd.prog.elem 35 = 23 := by kernel_rfl
  unfold refV
  have HN := Lib.hid hn
  have HL := Lib.hid hl
  have HD := Lib.hid hd
  obtain ⟨cn, hcn⟩ : ∃ c, Hid (c = limF n) := ⟨_, Lib.hid rfl⟩
  rw [← hcn.out]
  obtain ⟨z, hz⟩ : ∃ z, Hid (z = limF 0) := ⟨_, Lib.hid rfl⟩
  obtain ⟨q, hq⟩ := named (P - less)
  have hq256 : Hid (q / 2 ^ 256 = 0) := Lib.hid (by rw [hq.out]; exact Nat.div_eq_of_lt (Nat.lt_of_le_of_lt (Nat.sub_le _ _) (by decide)))
  obtain ⟨l0, hl0⟩ := named (65517 - less)
  have cl : IntKind.u64.wrap (65517 - (less : Int)) = (l0 : Int) := by rw [IntKind.wrap_u64, hl0.out]; omega
  have of1 := Lib.hid (fun W => refOf_any 1 (by decide) W)
  rw [← hq.out]
  clear hn hl hd
  go_enter Tryd.func37, Tryd.ntmps37
  go_upto_region 2 with fail
  rw [limFP, limFZ, ← hz.out]
  have h3 := Two3.new w cn z (limF P)
  generalize ((w.alloc (.cells cn 35)).alloc (.cells z 35)).alloc (.cells (limF P) 35) = W at *
  rw [hcn.out] at h3
  obtain ⟨zp, hzp⟩ : ∃ zp, Hid (zp = limF P) := ⟨_, Lib.hid rfl⟩
  rw [← hzp.out]
  have hc0 : W.cell? ⟨w.heap.size + 2, 0, none⟩ = some (.int .u64 65517) := by
    rw [h3.2.2.1.cell, limF, digsP]; rfl
  have hf0 := h3.2.2.1.frozen 0
  have h4 : Two3 w (limF n) z (limF q) (W.setCell ⟨w.heap.size + 2, 0, none⟩ (.int .u64 (l0 : Int))) := by
    refine ⟨h3.1.far (by show w.heap.size ≠ w.heap.size + 2; omega) _, h3.2.1.far (by show w.heap.size + 1 ≠ w.heap.size + 2; omega) _, ?_, h3.2.2.2.setCell (by show w.heap.size ≤ w.heap.size + 2; omega) _⟩
    have := h3.2.2.1.u64set 0 l0
    rw [hl0.out, digs_less HL.out, ← hq.out] at this
    rw [hl0.out]; exact this
  have H4 := Lib.hid h4
  clear h3 h4
  go_upto_region 3 with fail
  generalize W.setCell ⟨w.heap.size + 2, 0, none⟩ (.int .u64 (l0 : Int)) = W1 at *
  clear hc0 hf0 cl
  go_upto_block 0 with fail
  refine (of1.out _).mono ?_
  rintro e w2 ⟨rfl, hbb⟩
  unfold refV
  have H5 := Lib.hid (H4.out.next hbb)
  clear hbb
  have hsz0 : Hid ((limF 0).size = (limF 1).size) := Lib.hid (limF_sz _ _)
  rw [← hz.out] at hsz0
  go_wp2_with (first | (refine wpList_store_row rfl 35 (.tmp 8) (.tmp 18) rfl w2.heap.size (limF 1) rfl rfl 35 (limF 0) (heap_alloc_new w2 _) (limF_info 1) (limF_sz 0 1) (limF_one 1) ?_; rw [setRow_alloc1]))
  have hp1 : PowAt w n z q (limF 1) w2.heap.size (w2.alloc (.cells (limF 1) 35)) := ⟨H5.out.next ((Below.refl _ _).alloc (Nat.le_refl _) _), Blk.new _ _ _, H5.out.2.2.1.lt⟩
  generalize w2.alloc (.cells (limF 1) 35) = W2 at *
  generalize w2.heap.size = g at *
  have HP1 := Lib.hid hp1
  clear hp1
  (try simp only [Act.put, List.setIfInBounds_toArray, List.set_cons_zero, List.set_cons_succ])
  go_loopg [9] (256 - down) (fun gg iv wr => ∃ j : Nat, iv = .int .i64 ((j : Int) - 1) ∧ gg + down = j ∧ j ≤ 256 ∧ PowAt w n z q (limF (pw n (q / 2 ^ j))) g wr)
  case atStart => exact ⟨256, rfl, by have := HD.out; omega, by omega, by rw [hq256.out, pw_zero]; exact HP1.out⟩
  case round =>
    obtain ⟨j, hiv, hg, hj, hT⟩ := hrel
    clear HP1
    by_cases hlt : down < j
    · obtain ⟨i, rfl⟩ : ∃ i, j = i + 1 := ⟨j - 1, by omega⟩
      rw [show ((i + 1 : Nat) : Int) - 1 = (i : Int) by omega] at hiv
      subst hiv
      obtain ⟨G, hG⟩ : ∃ G, Hid (gk = G + 1 ∧ G + down = i) := ⟨gk - 1, Lib.hid ⟨by omega, by omega⟩⟩
      obtain ⟨e1, he1⟩ := named (q / 2 ^ (i + 1))
      rw [← he1.out] at hT
      have CM : Hid (∀ V, Calls Tryd.prog 22 #[.agg (limF (pw n e1)), .agg (limF (pw n e1))] V fun e w' => e = .returned (.agg (limF (pw n (e1 + e1)))) ∧ Below V.heap.size V w') := Lib.hid fun V => by
        have := refMul_any (pw n e1) (pw n e1) (Nat.lt_trans (pw_lt _ _) (by decide)) (Nat.lt_trans (pw_lt _ _) (by decide)) V
        unfold refV at this
        rwa [pw_add] at this
      have CM2 : Hid (∀ V, Calls Tryd.prog 22 #[.agg (limF (pw n (e1 + e1))), .agg cn] V fun e w' => e = .returned (.agg (limF (pw n (e1 + e1 + 1)))) ∧ Below V.heap.size V w') := Lib.hid fun V => by
        have := refMul_any (pw n (e1 + e1)) n (Nat.lt_trans (pw_lt _ _) (by decide)) (Nat.lt_trans HN.out (by decide)) V
        unfold refV at this
        rw [pw_next HN.out] at this
        rw [hcn.out]; exact this
      have hhalf := half_step q i
      rw [← he1.out] at hhalf
      have hcb0 : Hid (q / 2 ^ i % 2 = 0 → limF (pw n (e1 + e1)) = limF (pw n (q / 2 ^ i))) := Lib.hid fun h => by rw [hhalf, h, Nat.add_zero]
      have hcd0 : Hid (q / 2 ^ i % 2 = 1 → limF (pw n (e1 + e1 + 1)) = limF (pw n (q / 2 ^ i))) := Lib.hid fun h => by rw [hhalf, h]
      have oka := Lib.hid (limF_ok3 (pw n e1))
      have okb := Lib.hid (limF_ok3 (pw n (e1 + e1)))
      have okd := Lib.hid (limF_ok3 (pw n (e1 + e1 + 1)))
      have okn : Hid ((Tryd.prog.info? 35).map (·.size) = some cn.size) := by rw [hcn.out]; exact Lib.hid (limF_info n)
      have szab := Lib.hid (limF_sz (pw n e1) (pw n (e1 + e1)))
      have szbd := Lib.hid (limF_sz (pw n (e1 + e1)) (pw n (e1 + e1 + 1)))
      clear hhalf
      generalize limF (pw n e1) = ca at *
      generalize limF (pw n (e1 + e1)) = cb at *
      generalize limF (pw n (e1 + e1 + 1)) = cd at *
      have HT := Lib.hid hT
      clear hT
      have hil : i < 256 := by omega
      have hdi : (down : Int) ≤ (i : Int) := by omega
      obtain ⟨d, hd⟩ := named (i / 16)
      obtain ⟨r, hr⟩ := named (i % 16)
      have hd16 : d < 16 := by rw [hd.out]; omega
      have d1 : (i : Int) / 16 = (d : Int) := by rw [hd.out]; omega
      have d2 : (i : Int).tdiv 16 = (d : Int) := by rw [Int.tdiv_eq_ediv_of_nonneg (by omega)]; omega
      have d3 : (i : Int) % 16 = (r : Int) := by rw [hr.out]; omega
      have d4 : (i : Int).tmod 16 = (r : Int) := by rw [Int.tmod_eq_emod_of_nonneg (by omega)]; omega
      have dw : IntKind.i64.wrap (d : Int) = (d : Int) := IntWalk.i64_in _ (by omega)
      have iw : IntKind.i64.wrap ((i : Int) - 1) = (i : Int) - 1 := IntWalk.i64_in _ (by omega)
      have HG2 := Lib.hid (show i + 1 ≤ 256 from hj)
      clear hj hg hlt
      go_wp2_with (first | (refine wpList_load_row rfl 35 (.tmp 8) rfl g rfl 35 ca (0, 0) _ HT.out.2.1 Tryd.underlying35 rfl oka.out.1 ?_))
      refine (CM.out _).mono ?_
      rintro e w3 ⟨rfl, hb1⟩
      have HT1 := Lib.hid (HT.out.next hb1)
      clear hb1
      have ht2 := HT1.out.row cb
      go_upto_region 8 with (first | (refine wpList_store_row rfl 35 (.tmp 8) (.tmp 26) rfl g cb rfl rfl 35 ca HT1.out.2.1 okb.out.1 szab.out okb.out.2 ?_))
      generalize w3.setRow g cb = W3 at *
      have hx : W3.cell? ⟨w.heap.size + 2, d, none⟩ = some (.int .u64 (((digs B q 16).getD d 0 : Nat) : Int)) := ht2.1.2.2.1.u64 d (by rw [digs_length]; exact hd16)
      rw [digs_at hd16] at hx
      obtain ⟨x, hxx⟩ := named (q / B ^ d % B)
      rw [← hxx.out] at hx
      have hxB : x < 65536 := by rw [hxx.out]; exact Nat.mod_lt _ (by decide)
      have HB3 : Hid (x / 2 ^ r % 2 = q / 2 ^ i % 2) := Lib.hid (by rw [hxx.out, hr.out, hd.out]; exact bit_of q i)
      have HT2 := Lib.hid ht2
      clear ht2 HT1
      go_wp2_with fail
      clear hx
      (try simp only [Act.put, List.setIfInBounds_toArray, List.set_cons_zero, List.set_cons_succ])
      go_loopg [10, 11] r (fun gg bv kv w1 => ∃ k y : Nat, bv = .int .u64 (y : Int) ∧ kv = .int .i64 (k : Int) ∧ gg + k = r ∧ y = x / 2 ^ k ∧ PowAt w n z q cb g w1)
      case atStart => exact ⟨0, x, rfl, rfl, rfl, by simp, HT2.out⟩
      case round =>
        obtain ⟨k, y, rfl, rfl, hgk, hy, hT1⟩ := hrel
        clear HT2
        have HT1 := Lib.hid hT1
        have HY := Lib.hid hy
        clear hT1
        have hyl : y < 65536 := by rw [hy]; exact Nat.lt_of_le_of_lt (Nat.div_le_self _ _) hxB
        clear hy
        by_cases hk : k < r
        · obtain ⟨y2, hy2⟩ := named (y / 2)
          have e1' : (y : Int) / 2 = (y2 : Int) := by rw [hy2.out]; omega
          have e2' : (y : Int).tdiv 2 = (y2 : Int) := by rw [Int.tdiv_eq_ediv_of_nonneg (by omega)]; omega
          have e3' : IntKind.u64.wrap (y2 : Int) = (y2 : Int) := by rw [IntKind.wrap_u64, hy2.out]; omega
          go_wp2
          go_roundg (gk - 1)
          case measure => omega
          case rel => exact ⟨k + 1, y2, rfl, by go_num, by omega, by rw [hy2.out, HY.out, Nat.pow_succ, Nat.div_div_eq_div_mul], HT1.out⟩
        · obtain rfl : k = r := by omega
          obtain ⟨b, hb⟩ := named (y % 2)
          have e1' : (y : Int) % 2 = (b : Int) := by rw [hb.out]; omega
          have e2' : (y : Int).tmod 2 = (b : Int) := by rw [Int.tmod_eq_emod_of_nonneg (by omega)]; omega
          have e3' : IntKind.u64.wrap (b : Int) = (b : Int) := by rw [IntKind.wrap_u64, hb.out]; omega
          have hbit : Hid (q / 2 ^ i % 2 = b) := Lib.hid (by rw [hb.out, HY.out, HB3.out])
          have hb01 : b = 0 ∨ b = 1 := by rw [hb.out]; omega
          clear HB3
          rcases hb01 with hb0 | hb0
          · have E := Lib.hid (hcb0.out (by rw [hbit.out]; exact hb0))
            clear hbit hb
            subst hb0
            go_wp2_with fail
            go_roundg G
            case measure => have := hG.out; omega
            case rel => exact ⟨i, rfl, hG.out.2, by omega, by rw [← E.out]; exact HT1.out⟩
          · have E := Lib.hid (hcd0.out (by rw [hbit.out]; exact hb0))
            clear hbit hb
            subst hb0
            have hnb : Hid (Blk wr w.heap.size 35 cn) := by rw [hcn.out]; exact Lib.hid HT1.out.1.1
            go_wp2_with (first | (refine wpList_load_row rfl 35 (.tmp 8) rfl g rfl 35 cb (0, 0) _ HT1.out.2.1 Tryd.underlying35 rfl okb.out.1 ?_) |
              (refine wpList_load_row rfl 35 (.tmp 3) rfl w.heap.size rfl 35 cn (0, 0) _ hnb.out Tryd.underlying35 rfl okn.out ?_))
            refine (CM2.out _).mono ?_
            rintro e w4 ⟨rfl, hb1⟩
            have HT3 := Lib.hid (HT1.out.next hb1)
            clear hb1
            have HT4 := Lib.hid (HT3.out.row cd)
            go_wp2_with (first | (refine wpList_store_row rfl 35 (.tmp 8) (.tmp 44) rfl g cd rfl rfl 35 cb HT3.out.2.1 okd.out.1 szbd.out okd.out.2 ?_))
            go_roundg G
            case measure => have := hG.out; omega
            case rel => exact ⟨i, rfl, hG.out.2, by omega, by rw [← E.out]; exact HT4.out⟩
    · obtain rfl : down = j := by omega
      obtain ⟨m, hm⟩ : ∃ m : Int, Hid (m = (down : Int) - 1) := ⟨_, Lib.hid rfl⟩
      rw [← hm.out] at hiv
      have hml : m < (down : Int) := by rw [hm.out]; omega
      subst hiv
      obtain ⟨R, hR⟩ : ∃ R, Hid (R = limF (pw n (q / 2 ^ down))) := ⟨_, Lib.hid rfl⟩
      have okR := Lib.hid (limF_ok3 (pw n (q / 2 ^ down)))
      have szR : Hid (z.size = (limF (pw n (q / 2 ^ down))).size) := Lib.hid (by rw [hz.out, limF_size, limF_size])
      rw [← hR.out] at hT okR szR
      have HT := Lib.hid hT
      clear hT hg hj hlt
      go_wp2_with (first | (refine wpList_load_row rfl 35 (.tmp 8) rfl g rfl 35 R (0, 0) _ HT.out.2.1 Tryd.underlying35 rfl okR.out.1 ?_) |
        (refine wpList_store_row rfl 35 (.tmp 6) (.tmp 45) rfl (w.heap.size + 1) R rfl rfl 35 z HT.out.1.2.1 okR.out.1 szR.out okR.out.2 ?_))
      refine bodyPost_ret (v := .agg R) ?_ rfl ⟨by rw [hR.out], below_row HT.out.1.2.2.2 (by omega) _⟩
      exact results_cell_row Tryd.results37 _ _ (w.heap.size + 1) 35 R (0, 0) _ rfl ((HT.out.1.2.1).row R) Tryd.underlying35 rfl okR.out.1
end Go.Proofs.YtphlehinjooncaaDoor
