/-
  The program's package order: ends and ranges. Conditions: ends of at most 2^40 bytes.
-/
import Derived.Test.YtjdmhbfddklhnaaDoorOrdP4
import Derived.Test.YtjdmhbfddklhnaaDoorOrdP2
import Derived.Test.YtjdmhbfddklhnaaDoorOrdOk
import Derived.Test.YtjdmhbfddklhnaaDoorAuto
import Derived.Test.YtjdmhbfddklhnaaDoorOrdRef7
set_option linter.unusedSimpArgs false
set_option linter.unusedVariables false
set_option maxRecDepth 100000
namespace Go.Proofs.YtjdmhbfddklhnaaDoor
open Go Go.Proofs Go.RowKit _root_.Ord11 Go.Proofs.YtjdmhbfddklhnaaDoor.Ord11
open Sch (wp_R gr_val gr_is gr_fresh gr_nil gr_on gr_onV gr_offV op_callR Rk)

set_option maxHeartbeats 8000000 in
theorem pMeet (r s : Rg) (hor : r.o < 256) (hos : s.o < 256) {A1 A2 A3 A4 : Option Addr} {n1 c1 n2 c2 n3 c3 n4 c4 : Nat} (w : World) (h1 : SlAt w w.heap.size A1 n1 c1 r.lo.at_) (h2 : SlAt w w.heap.size A2 n2 c2 r.hi.at_) (h3 : SlAt w w.heap.size A3 n3 c3 s.lo.at_) (h4 : SlAt w w.heap.size A4 n4 c4 s.hi.at_) :
    Calls Tryd.prog 20 #[.agg (rgC r A1 n1 c1 A2 n2 c2), .agg (rgC s A3 n3 c3 A4 n4 c4)] w fun e w' => ∃ x, e = .returned (.tuple #[.agg x, .bool (meetR ordC r s).2]) ∧ RgIs w' (meetR ordC r s).1 x ∧ Below w.heap.size w w' := by
  have hm : meetR ordC r s = if bothR ordC r s = true then (⟨r.o, innerB ordC r.o 1 r.lo s.lo, innerB ordC r.o (-1) r.hi s.hi⟩, true) else (zeroR, false) := by
    have h := meet_both (C := ordC) r s
    cases hb : bothR ordC r s with
    | true =>
      rw [if_pos rfl]
      obtain ⟨ha, hs, ho⟩ := both_parts hb
      obtain ⟨_, h3, h4⟩ := mayR_parts ha
      obtain ⟨_, h5, h6⟩ := mayR_parts hs
      rw [← ho] at h5 h6
      rw [inner_lo ordC_lawful h3 h5, inner_hi ordC_lawful h4 h6]
      unfold meetR
      rw [if_pos ⟨ha, hs, ho⟩]
    | false =>
      rw [if_neg (by simp)]
      rw [hb] at h
      unfold meetR at h ⊢
      split
      · rename_i hc; rw [if_pos hc] at h; cases h
      · rfl
  rw [hm]
  clear hm
  obtain ⟨oa, ⟨ia1, pa1, l1⟩, ⟨ia2, pa2, l2⟩⟩ := r
  obtain ⟨ob, ⟨ib1, pb1, l3⟩, ⟨ib2, pb2, l4⟩⟩ := s
  dsimp only at h1 h2 h3 h4 hor hos ⊢
  obtain ⟨X, hX⟩ : ∃ X, X = bothR ordC ⟨oa, ⟨ia1, pa1, l1⟩, ⟨ia2, pa2, l2⟩⟩ ⟨ob, ⟨ib1, pb1, l3⟩, ⟨ib2, pb2, l4⟩⟩ := ⟨_, rfl⟩
  obtain ⟨b1, hb1⟩ : ∃ b, b = insideB ordC oa 1 ⟨ia1, pa1, l1⟩ ⟨ib1, pb1, l3⟩ := ⟨_, rfl⟩
  obtain ⟨b2, hb2⟩ : ∃ b, b = insideB ordC oa (-1) ⟨ia2, pa2, l2⟩ ⟨ib2, pb2, l4⟩ := ⟨_, rfl⟩
  have E1 : innerB ordC oa 1 ⟨ia1, pa1, l1⟩ ⟨ib1, pb1, l3⟩ = if b1 = true then ⟨ia1, pa1, l1⟩ else ⟨ib1, pb1, l3⟩ := by unfold innerB; rw [hb1]
  have E2 : innerB ordC oa (-1) ⟨ia2, pa2, l2⟩ ⟨ib2, pb2, l4⟩ = if b2 = true then ⟨ia2, pa2, l2⟩ else ⟨ib2, pb2, l4⟩ := by unfold innerB; rw [hb2]
  rw [← hX, E1, E2]
  clear E1 E2
  obtain ⟨w0, hw0⟩ : ∃ w0, w0 = (((w.alloc (.cells #[.int .u8 oa, .bool ia1, .bool pa1, .slice A1 n1 c1, .bool ia2, .bool pa2, .slice A2 n2 c2] 31)).alloc (.cells #[.int .u8 ob, .bool ib1, .bool pb1, .slice A3 n3 c3, .bool ib2, .bool pb2, .slice A4 n4 c4] 31)).alloc (.cells #[.int .u8 0, .bool false, .bool false, .slice none 0 0, .bool false, .bool false, .slice none 0 0] 31)) := ⟨_, rfl⟩
  have HB0 : Hid (Below w.heap.size w w0) := by
    show Below _ _ _
    rw [hw0]
    exact (((Below.refl w.heap.size w).alloc (Nat.le_refl _) _).alloc (by simp; try omega) _).alloc (by simp; try omega) _
  have B0 : Blk w0 w.heap.size 31 #[.int .u8 oa, .bool ia1, .bool pa1, .slice A1 n1 c1, .bool ia2, .bool pa2, .slice A2 n2 c2] := by
    rw [hw0]
    exact ((Blk.new w 31 #[.int .u8 oa, .bool ia1, .bool pa1, .slice A1 n1 c1, .bool ia2, .bool pa2, .slice A2 n2 c2]).alloc (.cells #[.int .u8 ob, .bool ib1, .bool pb1, .slice A3 n3 c3, .bool ib2, .bool pb2, .slice A4 n4 c4] 31)).alloc (.cells #[.int .u8 0, .bool false, .bool false, .slice none 0 0, .bool false, .bool false, .slice none 0 0] 31)
  have X0 : Hid (∀ W, Below w0.heap.size w0 W → ∀ k u, (#[.int .u8 oa, .bool ia1, .bool pa1, .slice A1 n1 c1, .bool ia2, .bool pa2, .slice A2 n2 c2] : Array Value)[k]? = some u → W.cell? ⟨w.heap.size, k, none⟩ = some u) := fun W hW k u hk => cell_below hW ((B0.cell k).trans hk) B0.lt
  have B1 : Blk w0 (w.heap.size + 1) 31 #[.int .u8 ob, .bool ib1, .bool pb1, .slice A3 n3 c3, .bool ib2, .bool pb2, .slice A4 n4 c4] := by
    rw [hw0]
    have h := (Blk.new (w.alloc (.cells #[.int .u8 oa, .bool ia1, .bool pa1, .slice A1 n1 c1, .bool ia2, .bool pa2, .slice A2 n2 c2] 31)) 31 #[.int .u8 ob, .bool ib1, .bool pb1, .slice A3 n3 c3, .bool ib2, .bool pb2, .slice A4 n4 c4]).alloc (.cells #[.int .u8 0, .bool false, .bool false, .slice none 0 0, .bool false, .bool false, .slice none 0 0] 31)
    simpa using h
  have X1 : Hid (∀ W, Below w0.heap.size w0 W → ∀ k u, (#[.int .u8 ob, .bool ib1, .bool pb1, .slice A3 n3 c3, .bool ib2, .bool pb2, .slice A4 n4 c4] : Array Value)[k]? = some u → W.cell? ⟨(w.heap.size + 1), k, none⟩ = some u) := fun W hW k u hk => cell_below hW ((B1.cell k).trans hk) B1.lt
  have B2 : Blk w0 (w.heap.size + 1 + 1) 31 #[.int .u8 0, .bool false, .bool false, .slice none 0 0, .bool false, .bool false, .slice none 0 0] := by
    rw [hw0]
    have h := Blk.new ((w.alloc (.cells #[.int .u8 oa, .bool ia1, .bool pa1, .slice A1 n1 c1, .bool ia2, .bool pa2, .slice A2 n2 c2] 31)).alloc (.cells #[.int .u8 ob, .bool ib1, .bool pb1, .slice A3 n3 c3, .bool ib2, .bool pb2, .slice A4 n4 c4] 31)) 31 #[.int .u8 0, .bool false, .bool false, .slice none 0 0, .bool false, .bool false, .slice none 0 0]
    simpa using h
  have X2 : Hid (∀ W, Below w0.heap.size w0 W → ∀ k u, (#[.int .u8 0, .bool false, .bool false, .slice none 0 0, .bool false, .bool false, .slice none 0 0] : Array Value)[k]? = some u → W.cell? ⟨(w.heap.size + 1 + 1), k, none⟩ = some u) := fun W hW k u hk => cell_below hW ((B2.cell k).trans hk) B2.lt
  have HR : Below w0.heap.size w0 w0 := Below.refl _ _
  clear B0 B1 B2
  have K1 : Hid (∀ W, Below w0.heap.size w0 W → Calls Tryd.prog 32 #[.agg #[.int .u8 oa, .bool ia1, .bool pa1, .slice A1 n1 c1, .bool ia2, .bool pa2, .slice A2 n2 c2], .agg #[.int .u8 ob, .bool ib1, .bool pb1, .slice A3 n3 c3, .bool ib2, .bool pb2, .slice A4 n4 c4]] W fun e w' => e = .returned (.bool X) ∧ Below W.heap.size W w') := by
    intro W hW
    have hW' := next_below HB0.out hW
    rw [hX]; exact pMayBoth ⟨oa, ⟨ia1, pa1, l1⟩, ⟨ia2, pa2, l2⟩⟩ ⟨ob, ⟨ib1, pb1, l3⟩, ⟨ib2, pb2, l4⟩⟩ hor hos W (h1.next hW') (h2.next hW') (h3.next hW') (h4.next hW')
  have K3 : Hid (∀ W, Below w0.heap.size w0 W → Calls Tryd.prog 34 #[.int .u8 oa, .int .i64 1, .agg #[.bool ia1, .bool pa1, .slice A1 n1 c1], .agg #[.bool ib1, .bool pb1, .slice A3 n3 c3]] W fun e w' => e = .returned (.agg (pickA b1 #[.bool ia1, .bool pa1, .slice A1 n1 c1] #[.bool ib1, .bool pb1, .slice A3 n3 c3])) ∧ Below W.heap.size W w') := by
    intro W hW
    have hW' := next_below HB0.out hW
    rw [hb1]; exact pInner oa hor 1 ⟨ia1, pa1, l1⟩ ⟨ib1, pb1, l3⟩ W (h1.next hW') (h3.next hW')
  have K4 : Hid (∀ W, Below w0.heap.size w0 W → Calls Tryd.prog 34 #[.int .u8 oa, .int .i64 (-1), .agg #[.bool ia2, .bool pa2, .slice A2 n2 c2], .agg #[.bool ib2, .bool pb2, .slice A4 n4 c4]] W fun e w' => e = .returned (.agg (pickA b2 #[.bool ia2, .bool pa2, .slice A2 n2 c2] #[.bool ib2, .bool pb2, .slice A4 n4 c4])) ∧ Below W.heap.size W w') := by
    intro W hW
    have hW' := next_below HB0.out hW
    rw [hb2]; exact pInner oa hor (-1) ⟨ia2, pa2, l2⟩ ⟨ib2, pb2, l4⟩ W (h2.next hW') (h4.next hW')
  have C1 : Hid (∀ W, Below w0.heap.size w0 W → Calls Tryd.prog 33 #[.agg #[.bool ia1, .bool pa1, .slice A1 n1 c1]] W fun e w' => ∃ v, e = .returned v ∧ BdV w0.heap.size ia1 pa1 n1 l1 v w' ∧ Below W.heap.size W w') := by
    intro W hW
    refine (pCopied ⟨ia1, pa1, l1⟩ W (h1.next (next_below HB0.out hW))).mono ?_
    rintro e w' ⟨v, rfl, ⟨A, c, rfl, hs, hL⟩, hb⟩
    exact ⟨_, rfl, ⟨A, c, rfl, hs, fun ad h => Nat.le_trans hW.size (hL ad h)⟩, hb⟩
  have C2 : Hid (∀ W, Below w0.heap.size w0 W → Calls Tryd.prog 33 #[.agg #[.bool ia2, .bool pa2, .slice A2 n2 c2]] W fun e w' => ∃ v, e = .returned v ∧ BdV w0.heap.size ia2 pa2 n2 l2 v w' ∧ Below W.heap.size W w') := by
    intro W hW
    refine (pCopied ⟨ia2, pa2, l2⟩ W (h2.next (next_below HB0.out hW))).mono ?_
    rintro e w' ⟨v, rfl, ⟨A, c, rfl, hs, hL⟩, hb⟩
    exact ⟨_, rfl, ⟨A, c, rfl, hs, fun ad h => Nat.le_trans hW.size (hL ad h)⟩, hb⟩
  have C3 : Hid (∀ W, Below w0.heap.size w0 W → Calls Tryd.prog 33 #[.agg #[.bool ib1, .bool pb1, .slice A3 n3 c3]] W fun e w' => ∃ v, e = .returned v ∧ BdV w0.heap.size ib1 pb1 n3 l3 v w' ∧ Below W.heap.size W w') := by
    intro W hW
    refine (pCopied ⟨ib1, pb1, l3⟩ W (h3.next (next_below HB0.out hW))).mono ?_
    rintro e w' ⟨v, rfl, ⟨A, c, rfl, hs, hL⟩, hb⟩
    exact ⟨_, rfl, ⟨A, c, rfl, hs, fun ad h => Nat.le_trans hW.size (hL ad h)⟩, hb⟩
  have C4 : Hid (∀ W, Below w0.heap.size w0 W → Calls Tryd.prog 33 #[.agg #[.bool ib2, .bool pb2, .slice A4 n4 c4]] W fun e w' => ∃ v, e = .returned v ∧ BdV w0.heap.size ib2 pb2 n4 l4 v w' ∧ Below W.heap.size W w') := by
    intro W hW
    refine (pCopied ⟨ib2, pb2, l4⟩ W (h4.next (next_below HB0.out hW))).mono ?_
    rintro e w' ⟨v, rfl, ⟨A, c, rfl, hs, hL⟩, hb⟩
    exact ⟨_, rfl, ⟨A, c, rfl, hs, fun ad h => Nat.le_trans hW.size (hL ad h)⟩, hb⟩
  have KZ : Hid (∀ W, Below w0.heap.size w0 W → Blk W (w.heap.size + 1 + 1) 31 #[.int .u8 0, .bool false, .bool false, .slice none 0 0, .bool false, .bool false, .slice none 0 0]) := by
    intro W hW
    refine Blk.old (w := w0) ?_ hW
    rw [hw0]
    have h := Blk.new ((w.alloc (.cells #[.int .u8 oa, .bool ia1, .bool pa1, .slice A1 n1 c1, .bool ia2, .bool pa2, .slice A2 n2 c2] 31)).alloc (.cells #[.int .u8 ob, .bool ib1, .bool pb1, .slice A3 n3 c3, .bool ib2, .bool pb2, .slice A4 n4 c4] 31)) 31 #[.int .u8 0, .bool false, .bool false, .slice none 0 0, .bool false, .bool false, .slice none 0 0]
    simpa using h
  have HG : Hid (w.heap.size + 1 + 1 < w0.heap.size) := by show _ < _; rw [hw0]; simp
  have hgt : w.heap.size ≤ w.heap.size + 1 + 1 := by omega
  clear hX hb1 hb2 h1 h2 h3 h4
  unfold rgC
  go_enter Tryd.func20, Tryd.ntmps20
  go_upto_region 1 with fail
  rw [← hw0]
  clear hw0
  have x0_0 := X0.out _ HR 0 _ rfl
  have x0_1 := X0.out _ HR 1 _ rfl
  have x0_2 := X0.out _ HR 2 _ rfl
  have x0_3 := X0.out _ HR 3 _ rfl
  have x0_4 := X0.out _ HR 4 _ rfl
  have x0_5 := X0.out _ HR 5 _ rfl
  have x0_6 := X0.out _ HR 6 _ rfl
  have x1_0 := X1.out _ HR 0 _ rfl
  have x1_1 := X1.out _ HR 1 _ rfl
  have x1_2 := X1.out _ HR 2 _ rfl
  have x1_3 := X1.out _ HR 3 _ rfl
  have x1_4 := X1.out _ HR 4 _ rfl
  have x1_5 := X1.out _ HR 5 _ rfl
  have x1_6 := X1.out _ HR 6 _ rfl
  cases X with
  | false =>
    go_wp2_with first | (go_at_call 32; (with_reducible refine (K1.out _ (by assumption)).mono ?_); rintro e w1 ⟨rfl, hb⟩; have hB := next_below (by assumption) hb; have x0_0 := X0.out _ hB 0 _ rfl; have x0_1 := X0.out _ hB 1 _ rfl; have x0_2 := X0.out _ hB 2 _ rfl; have x0_3 := X0.out _ hB 3 _ rfl; have x0_4 := X0.out _ hB 4 _ rfl; have x0_5 := X0.out _ hB 5 _ rfl; have x0_6 := X0.out _ hB 6 _ rfl; have x1_0 := X1.out _ hB 0 _ rfl; have x1_1 := X1.out _ hB 1 _ rfl; have x1_2 := X1.out _ hB 2 _ rfl; have x1_3 := X1.out _ hB 3 _ rfl; have x1_4 := X1.out _ hB 4 _ rfl; have x1_5 := X1.out _ hB 5 _ rfl; have x1_6 := X1.out _ hB 6 _ rfl; clear hb) | (refine wpList_store_row rfl 31 (.tmp 4) (.tmp 10) rfl (w.heap.size + 1 + 1) _ rfl rfl 31 #[.int .u8 0, .bool false, .bool false, .slice none 0 0, .bool false, .bool false, .slice none 0 0] (KZ.out _ (by assumption)) infoRg rfl (by simp [Value.oneCell']) ?_)
    exact bodyPost_ret (results_st_tmp Tryd.results20 _ _ (w.heap.size + 1 + 1) 31 _ _ _ rfl rfl ((KZ.out _ (by assumption)).row _) Tryd.underlying31 rfl infoRg) rfl ⟨_, rfl, ⟨none, 0, 0, none, 0, 0, rfl, by decide, ⟨Reads.none_, by omega, by omega⟩, ⟨Reads.none_, by omega, by omega⟩⟩, below_row (next_below HB0.out (by assumption)) hgt _⟩
  | true =>
    go_upto_region 3 with (go_at_call 32; (with_reducible refine (K1.out _ (by assumption)).mono ?_); rintro e w1 ⟨rfl, hb⟩; have hB := next_below (by assumption) hb; have x0_0 := X0.out _ hB 0 _ rfl; have x0_1 := X0.out _ hB 1 _ rfl; have x0_2 := X0.out _ hB 2 _ rfl; have x0_3 := X0.out _ hB 3 _ rfl; have x0_4 := X0.out _ hB 4 _ rfl; have x0_5 := X0.out _ hB 5 _ rfl; have x0_6 := X0.out _ hB 6 _ rfl; have x1_0 := X1.out _ hB 0 _ rfl; have x1_1 := X1.out _ hB 1 _ rfl; have x1_2 := X1.out _ hB 2 _ rfl; have x1_3 := X1.out _ hB 3 _ rfl; have x1_4 := X1.out _ hB 4 _ rfl; have x1_5 := X1.out _ hB 5 _ rfl; have x1_6 := X1.out _ hB 6 _ rfl; clear hb)
    cases b1 <;> cases b2
    · try simp only [Act.put]
      refine wp_R [11, 12, 13, 14, 15, 16, 17, 18, 19, 20, 21, 22, 23, 24, 25, 26, 27, 28, 29] [Rk.val (.pointer (some ⟨w.heap.size, 0, none⟩)), Rk.val (.int .u8 oa), Rk.val (.pointer (some ⟨w.heap.size, 0, none⟩)), Rk.val (.int .u8 oa), Rk.val (.pointer (some ⟨w.heap.size, 1, none⟩)), Rk.val (.agg #[.bool ia1, .bool pa1, .slice A1 n1 c1]), Rk.val (.pointer (some ⟨w.heap.size + 1, 1, none⟩)), Rk.val (.agg #[.bool ib1, .bool pb1, .slice A3 n3 c3]), Rk.val (.agg #[.bool ib1, .bool pb1, .slice A3 n3 c3]), Rk.is (BdV w0.heap.size ib1 pb1 n3 l3) (BdV.keep), Rk.val (.pointer (some ⟨w.heap.size, 0, none⟩)), Rk.val (.int .u8 oa), Rk.val (.pointer (some ⟨w.heap.size, 4, none⟩)), Rk.val (.agg #[.bool ia2, .bool pa2, .slice A2 n2 c2]), Rk.val (.pointer (some ⟨w.heap.size + 1, 4, none⟩)), Rk.val (.agg #[.bool ib2, .bool pb2, .slice A4 n4 c4]), Rk.val (.agg #[.bool ib2, .bool pb2, .slice A4 n4 c4]), Rk.is (BdV w0.heap.size ib2 pb2 n4 l4) (BdV.keep), Rk.is (fun v V => ∃ A c A2 c2, v = .agg #[.int .u8 oa, .bool ib1, .bool pb1, .slice A n3 c, .bool ib2, .bool pb2, .slice A2 n4 c2] ∧ SlAt V V.heap.size A n3 c l3 ∧ (∀ ad, A = some ad → w0.heap.size ≤ ad.block) ∧ SlAt V V.heap.size A2 n4 c2 l4 ∧ (∀ ad, A2 = some ad → w0.heap.size ≤ ad.block)) (fun v V V' ⟨A, c, A2, c2, e, g1, g2, g3, g4⟩ hb => ⟨A, c, A2, c2, e, g1.next hb, g2, g3.next hb, g4⟩)] rfl (by kernel_rfl) (by kernel_rfl) (by kernel_rfl) (by kernel_rfl) ?hg00 _ (by rfl) ?hf00
      case hg00 =>
        refine gr_val rfl (by kernel_rfl) (fun a V H K Q hK => op_quiet (quiet_fld _ (.tmp 2) 0 _ _ (H.old 2 (by kernel_rfl) (by kernel_rfl)) (fR0 _ 0) (by kernel_rfl)) hK) ?_
        refine gr_val rfl (by kernel_rfl) (fun a V H K Q hK => op_quiet (quiet_cell _ (.tmp 11) _ (H.rel 0 11 (by kernel_rfl) (by kernel_rfl) rfl) Tryd.underlying5 rfl (X0.out _ (next_below hB H.frame) 0 _ rfl) (by kernel_rfl)) hK) ?_
        refine gr_val rfl (by kernel_rfl) (fun a V H K Q hK => op_quiet (quiet_fld _ (.tmp 2) 0 _ _ (H.old 2 (by kernel_rfl) (by kernel_rfl)) (fR0 _ 0) (by kernel_rfl)) hK) ?_
        refine gr_val rfl (by kernel_rfl) (fun a V H K Q hK => op_quiet (quiet_cell _ (.tmp 13) _ (H.rel 2 13 (by kernel_rfl) (by kernel_rfl) rfl) Tryd.underlying5 rfl (X0.out _ (next_below hB H.frame) 0 _ rfl) (by kernel_rfl)) hK) ?_
        refine gr_val rfl (by kernel_rfl) (fun a V H K Q hK => op_quiet (quiet_fld _ (.tmp 2) 1 _ _ (H.old 2 (by kernel_rfl) (by kernel_rfl)) (fR1 _ 0) (by kernel_rfl)) hK) ?_
        refine gr_val rfl (by kernel_rfl) (fun a V H K Q hK => op_quiet (quiet_agg _ (.tmp 15) _ 1 (H.rel 4 15 (by kernel_rfl) (by kernel_rfl) rfl) #[.bool ia1, .bool pa1, .slice A1 n1 c1] (fun j v hj => X0.out _ (next_below hB H.frame) _ v (part_at 1 ⟨_, rfl⟩ j v hj)) Tryd.underlying29 rfl (by kernel_rfl) (by kernel_rfl)) hK) ?_
        refine gr_val rfl (by kernel_rfl) (fun a V H K Q hK => op_quiet (quiet_fld _ (.tmp 3) 1 _ _ (H.old 3 (by kernel_rfl) (by kernel_rfl)) (fR1 _ 0) (by kernel_rfl)) hK) ?_
        refine gr_val rfl (by kernel_rfl) (fun a V H K Q hK => op_quiet (quiet_agg _ (.tmp 17) _ 1 (H.rel 6 17 (by kernel_rfl) (by kernel_rfl) rfl) #[.bool ib1, .bool pb1, .slice A3 n3 c3] (fun j v hj => X1.out _ (next_below hB H.frame) _ v (part_at 1 ⟨_, rfl⟩ j v hj)) Tryd.underlying29 rfl (by kernel_rfl) (by kernel_rfl)) hK) ?_
        refine gr_val rfl (by kernel_rfl) (fun a V H K Q hK => op_callK _ #[.int .u8 oa, .int .i64 1, .agg #[.bool ia1, .bool pa1, .slice A1 n1 c1], .agg #[.bool ib1, .bool pb1, .slice A3 n3 c3]] (by kernel_rfl) (by kernel_rfl) (by kernel_rfl) (map4N (H.rel 3 14 (by kernel_rfl) (by kernel_rfl) rfl) (show a.eval (.const (.int .i64 1)) = .int .i64 1 from rfl) (H.rel 5 16 (by kernel_rfl) (by kernel_rfl) rfl) (H.rel 7 18 (by kernel_rfl) (by kernel_rfl) rfl)) (K3.out _ (next_below hB H.frame)) (by kernel_rfl) hK) ?_
        refine gr_is rfl (by kernel_rfl) (fun a V H K Q hK => op_callR #[.tmp 19] #[.agg #[.bool ib1, .bool pb1, .slice A3 n3 c3]] (by kernel_rfl) (by kernel_rfl) (by kernel_rfl) (map1 (H.rel 8 19 (by kernel_rfl) (by kernel_rfl) rfl)) (C3.out V (next_below hB H.frame)) (by kernel_rfl) hK) ?_
        refine gr_val rfl (by kernel_rfl) (fun a V H K Q hK => op_quiet (quiet_fld _ (.tmp 2) 0 _ _ (H.old 2 (by kernel_rfl) (by kernel_rfl)) (fR0 _ 0) (by kernel_rfl)) hK) ?_
        refine gr_val rfl (by kernel_rfl) (fun a V H K Q hK => op_quiet (quiet_cell _ (.tmp 21) _ (H.rel 10 21 (by kernel_rfl) (by kernel_rfl) rfl) Tryd.underlying5 rfl (X0.out _ (next_below hB H.frame) 0 _ rfl) (by kernel_rfl)) hK) ?_
        refine gr_val rfl (by kernel_rfl) (fun a V H K Q hK => op_quiet (quiet_fld _ (.tmp 2) 2 _ _ (H.old 2 (by kernel_rfl) (by kernel_rfl)) (fR2 _ 0) (by kernel_rfl)) hK) ?_
        refine gr_val rfl (by kernel_rfl) (fun a V H K Q hK => op_quiet (quiet_agg _ (.tmp 23) _ 4 (H.rel 12 23 (by kernel_rfl) (by kernel_rfl) rfl) #[.bool ia2, .bool pa2, .slice A2 n2 c2] (fun j v hj => X0.out _ (next_below hB H.frame) _ v (part_at 4 ⟨_, rfl⟩ j v hj)) Tryd.underlying29 rfl (by kernel_rfl) (by kernel_rfl)) hK) ?_
        refine gr_val rfl (by kernel_rfl) (fun a V H K Q hK => op_quiet (quiet_fld _ (.tmp 3) 2 _ _ (H.old 3 (by kernel_rfl) (by kernel_rfl)) (fR2 _ 0) (by kernel_rfl)) hK) ?_
        refine gr_val rfl (by kernel_rfl) (fun a V H K Q hK => op_quiet (quiet_agg _ (.tmp 25) _ 4 (H.rel 14 25 (by kernel_rfl) (by kernel_rfl) rfl) #[.bool ib2, .bool pb2, .slice A4 n4 c4] (fun j v hj => X1.out _ (next_below hB H.frame) _ v (part_at 4 ⟨_, rfl⟩ j v hj)) Tryd.underlying29 rfl (by kernel_rfl) (by kernel_rfl)) hK) ?_
        refine gr_val rfl (by kernel_rfl) (fun a V H K Q hK => op_callK _ #[.int .u8 oa, .int .i64 (-1), .agg #[.bool ia2, .bool pa2, .slice A2 n2 c2], .agg #[.bool ib2, .bool pb2, .slice A4 n4 c4]] (by kernel_rfl) (by kernel_rfl) (by kernel_rfl) (map4N (H.rel 11 22 (by kernel_rfl) (by kernel_rfl) rfl) (show a.eval (.const (.int .i64 (-1))) = .int .i64 (-1) from rfl) (H.rel 13 24 (by kernel_rfl) (by kernel_rfl) rfl) (H.rel 15 26 (by kernel_rfl) (by kernel_rfl) rfl)) (K4.out _ (next_below hB H.frame)) (by kernel_rfl) hK) ?_
        refine gr_is rfl (by kernel_rfl) (fun a V H K Q hK => op_callR #[.tmp 27] #[.agg #[.bool ib2, .bool pb2, .slice A4 n4 c4]] (by kernel_rfl) (by kernel_rfl) (by kernel_rfl) (map1 (H.rel 16 27 (by kernel_rfl) (by kernel_rfl) rfl)) (C4.out V (next_below hB H.frame)) (by kernel_rfl) hK) ?_
        refine gr_is rfl (by kernel_rfl) (fun a V H K Q hK => by
          obtain ⟨A9, c9, e9, h9, hL9⟩ : BdV w0.heap.size ib1 pb1 n3 l3 (a.eval (.tmp 20)) V := (H.rel 9 20 (by kernel_rfl) (by kernel_rfl) rfl)
          obtain ⟨A8, c8, e8, h8, hL8⟩ : BdV w0.heap.size ib2 pb2 n4 l4 (a.eval (.tmp 28)) V := (H.rel 17 28 (by kernel_rfl) (by kernel_rfl) rfl)
          exact op_quiet (quiet_bld 31 _ _ (bld3 (a := 0) (b := 1) (c := 2) (H.rel 1 12 (by kernel_rfl) (by kernel_rfl) rfl) e9 e8) #[.int .u8 oa, .bool ib1, .bool pb1, .slice A9 n3 c9, .bool ib2, .bool pb2, .slice A8 n4 c8] (by kernel_rfl) (by kernel_rfl)) fun V' hb => hK _ V' hb ⟨A9, c9, A8, c8, rfl, h9.next hb, hL9, h8.next hb, hL8⟩) ?_
        exact gr_nil
      case hf00 =>
        intro x V hF
        have ev0 : x 0 = .pointer (some ⟨w.heap.size, 0, none⟩) := hF.rel 0 _ rfl
        have ev1 : x 1 = .int .u8 oa := hF.rel 1 _ rfl
        have ev2 : x 2 = .pointer (some ⟨w.heap.size, 0, none⟩) := hF.rel 2 _ rfl
        have ev3 : x 3 = .int .u8 oa := hF.rel 3 _ rfl
        have ev4 : x 4 = .pointer (some ⟨w.heap.size, 1, none⟩) := hF.rel 4 _ rfl
        have ev5 : x 5 = .agg #[.bool ia1, .bool pa1, .slice A1 n1 c1] := hF.rel 5 _ rfl
        have ev6 : x 6 = .pointer (some ⟨w.heap.size + 1, 1, none⟩) := hF.rel 6 _ rfl
        have ev7 : x 7 = .agg #[.bool ib1, .bool pb1, .slice A3 n3 c3] := hF.rel 7 _ rfl
        have ev8 : x 8 = .agg #[.bool ib1, .bool pb1, .slice A3 n3 c3] := hF.rel 8 _ rfl
        have rv9 := hF.rel 9 _ rfl
        generalize hy9 : x 9 = y9 at rv9 ⊢
        have ev10 : x 10 = .pointer (some ⟨w.heap.size, 0, none⟩) := hF.rel 10 _ rfl
        have ev11 : x 11 = .int .u8 oa := hF.rel 11 _ rfl
        have ev12 : x 12 = .pointer (some ⟨w.heap.size, 4, none⟩) := hF.rel 12 _ rfl
        have ev13 : x 13 = .agg #[.bool ia2, .bool pa2, .slice A2 n2 c2] := hF.rel 13 _ rfl
        have ev14 : x 14 = .pointer (some ⟨w.heap.size + 1, 4, none⟩) := hF.rel 14 _ rfl
        have ev15 : x 15 = .agg #[.bool ib2, .bool pb2, .slice A4 n4 c4] := hF.rel 15 _ rfl
        have ev16 : x 16 = .agg #[.bool ib2, .bool pb2, .slice A4 n4 c4] := hF.rel 16 _ rfl
        have rv17 := hF.rel 17 _ rfl
        generalize hy17 : x 17 = y17 at rv17 ⊢
        have rv18 := hF.rel 18 _ rfl
        generalize hy18 : x 18 = y18 at rv18 ⊢
        have hbf := hF.frame
        clear hF
        simp only [Sch.finL, List.setIfInBounds_toArray, List.set_cons_zero, List.set_cons_succ, ev0, ev1, ev2, ev3, ev4, ev5, ev6, ev7, ev8, hy9, ev10, ev11, ev12, ev13, ev14, ev15, ev16, hy17, hy18]
        clear ev0 ev1 ev2 ev3 ev4 ev5 ev6 ev7 ev8 hy9 ev10 ev11 ev12 ev13 ev14 ev15 ev16 hy17 hy18
        obtain ⟨A9, c9, A8, c8, e9, h9, hL9, h8, hL8⟩ := rv18
        subst e9
        have hB9 := next_below hB hbf
        refine wpList_store_row rfl 31 (.tmp 4) (.tmp 29) rfl (w.heap.size + 1 + 1) _ rfl rfl 31 #[.int .u8 0, .bool false, .bool false, .slice none 0 0, .bool false, .bool false, .slice none 0 0] (KZ.out _ hB9) infoRg rfl (by simp [Value.oneCell']) ?_
        go_wp2_with fail
        exact bodyPost_ret (results_st_tmp Tryd.results20 _ _ (w.heap.size + 1 + 1) 31 _ _ _ rfl rfl ((KZ.out _ hB9).row _) Tryd.underlying31 rfl infoRg) rfl ⟨_, rfl, ⟨A9, n3, c9, A8, n4, c8, rfl, hor, h9.row11 (fun ad h => by have := hL9 ad h; have := HG.out; omega) _, h8.row11 (fun ad h => by have := hL8 ad h; have := HG.out; omega) _⟩, below_row (next_below HB0.out hB9) hgt _⟩
    · try simp only [Act.put]
      refine wp_R [11, 12, 13, 14, 15, 16, 17, 18, 19, 20, 21, 22, 23, 24, 25, 26, 27, 28, 29] [Rk.val (.pointer (some ⟨w.heap.size, 0, none⟩)), Rk.val (.int .u8 oa), Rk.val (.pointer (some ⟨w.heap.size, 0, none⟩)), Rk.val (.int .u8 oa), Rk.val (.pointer (some ⟨w.heap.size, 1, none⟩)), Rk.val (.agg #[.bool ia1, .bool pa1, .slice A1 n1 c1]), Rk.val (.pointer (some ⟨w.heap.size + 1, 1, none⟩)), Rk.val (.agg #[.bool ib1, .bool pb1, .slice A3 n3 c3]), Rk.val (.agg #[.bool ib1, .bool pb1, .slice A3 n3 c3]), Rk.is (BdV w0.heap.size ib1 pb1 n3 l3) (BdV.keep), Rk.val (.pointer (some ⟨w.heap.size, 0, none⟩)), Rk.val (.int .u8 oa), Rk.val (.pointer (some ⟨w.heap.size, 4, none⟩)), Rk.val (.agg #[.bool ia2, .bool pa2, .slice A2 n2 c2]), Rk.val (.pointer (some ⟨w.heap.size + 1, 4, none⟩)), Rk.val (.agg #[.bool ib2, .bool pb2, .slice A4 n4 c4]), Rk.val (.agg #[.bool ia2, .bool pa2, .slice A2 n2 c2]), Rk.is (BdV w0.heap.size ia2 pa2 n2 l2) (BdV.keep), Rk.is (fun v V => ∃ A c A2 c2, v = .agg #[.int .u8 oa, .bool ib1, .bool pb1, .slice A n3 c, .bool ia2, .bool pa2, .slice A2 n2 c2] ∧ SlAt V V.heap.size A n3 c l3 ∧ (∀ ad, A = some ad → w0.heap.size ≤ ad.block) ∧ SlAt V V.heap.size A2 n2 c2 l2 ∧ (∀ ad, A2 = some ad → w0.heap.size ≤ ad.block)) (fun v V V' ⟨A, c, A2, c2, e, g1, g2, g3, g4⟩ hb => ⟨A, c, A2, c2, e, g1.next hb, g2, g3.next hb, g4⟩)] rfl (by kernel_rfl) (by kernel_rfl) (by kernel_rfl) (by kernel_rfl) ?hg01 _ (by rfl) ?hf01
      case hg01 =>
        refine gr_val rfl (by kernel_rfl) (fun a V H K Q hK => op_quiet (quiet_fld _ (.tmp 2) 0 _ _ (H.old 2 (by kernel_rfl) (by kernel_rfl)) (fR0 _ 0) (by kernel_rfl)) hK) ?_
        refine gr_val rfl (by kernel_rfl) (fun a V H K Q hK => op_quiet (quiet_cell _ (.tmp 11) _ (H.rel 0 11 (by kernel_rfl) (by kernel_rfl) rfl) Tryd.underlying5 rfl (X0.out _ (next_below hB H.frame) 0 _ rfl) (by kernel_rfl)) hK) ?_
        refine gr_val rfl (by kernel_rfl) (fun a V H K Q hK => op_quiet (quiet_fld _ (.tmp 2) 0 _ _ (H.old 2 (by kernel_rfl) (by kernel_rfl)) (fR0 _ 0) (by kernel_rfl)) hK) ?_
        refine gr_val rfl (by kernel_rfl) (fun a V H K Q hK => op_quiet (quiet_cell _ (.tmp 13) _ (H.rel 2 13 (by kernel_rfl) (by kernel_rfl) rfl) Tryd.underlying5 rfl (X0.out _ (next_below hB H.frame) 0 _ rfl) (by kernel_rfl)) hK) ?_
        refine gr_val rfl (by kernel_rfl) (fun a V H K Q hK => op_quiet (quiet_fld _ (.tmp 2) 1 _ _ (H.old 2 (by kernel_rfl) (by kernel_rfl)) (fR1 _ 0) (by kernel_rfl)) hK) ?_
        refine gr_val rfl (by kernel_rfl) (fun a V H K Q hK => op_quiet (quiet_agg _ (.tmp 15) _ 1 (H.rel 4 15 (by kernel_rfl) (by kernel_rfl) rfl) #[.bool ia1, .bool pa1, .slice A1 n1 c1] (fun j v hj => X0.out _ (next_below hB H.frame) _ v (part_at 1 ⟨_, rfl⟩ j v hj)) Tryd.underlying29 rfl (by kernel_rfl) (by kernel_rfl)) hK) ?_
        refine gr_val rfl (by kernel_rfl) (fun a V H K Q hK => op_quiet (quiet_fld _ (.tmp 3) 1 _ _ (H.old 3 (by kernel_rfl) (by kernel_rfl)) (fR1 _ 0) (by kernel_rfl)) hK) ?_
        refine gr_val rfl (by kernel_rfl) (fun a V H K Q hK => op_quiet (quiet_agg _ (.tmp 17) _ 1 (H.rel 6 17 (by kernel_rfl) (by kernel_rfl) rfl) #[.bool ib1, .bool pb1, .slice A3 n3 c3] (fun j v hj => X1.out _ (next_below hB H.frame) _ v (part_at 1 ⟨_, rfl⟩ j v hj)) Tryd.underlying29 rfl (by kernel_rfl) (by kernel_rfl)) hK) ?_
        refine gr_val rfl (by kernel_rfl) (fun a V H K Q hK => op_callK _ #[.int .u8 oa, .int .i64 1, .agg #[.bool ia1, .bool pa1, .slice A1 n1 c1], .agg #[.bool ib1, .bool pb1, .slice A3 n3 c3]] (by kernel_rfl) (by kernel_rfl) (by kernel_rfl) (map4N (H.rel 3 14 (by kernel_rfl) (by kernel_rfl) rfl) (show a.eval (.const (.int .i64 1)) = .int .i64 1 from rfl) (H.rel 5 16 (by kernel_rfl) (by kernel_rfl) rfl) (H.rel 7 18 (by kernel_rfl) (by kernel_rfl) rfl)) (K3.out _ (next_below hB H.frame)) (by kernel_rfl) hK) ?_
        refine gr_is rfl (by kernel_rfl) (fun a V H K Q hK => op_callR #[.tmp 19] #[.agg #[.bool ib1, .bool pb1, .slice A3 n3 c3]] (by kernel_rfl) (by kernel_rfl) (by kernel_rfl) (map1 (H.rel 8 19 (by kernel_rfl) (by kernel_rfl) rfl)) (C3.out V (next_below hB H.frame)) (by kernel_rfl) hK) ?_
        refine gr_val rfl (by kernel_rfl) (fun a V H K Q hK => op_quiet (quiet_fld _ (.tmp 2) 0 _ _ (H.old 2 (by kernel_rfl) (by kernel_rfl)) (fR0 _ 0) (by kernel_rfl)) hK) ?_
        refine gr_val rfl (by kernel_rfl) (fun a V H K Q hK => op_quiet (quiet_cell _ (.tmp 21) _ (H.rel 10 21 (by kernel_rfl) (by kernel_rfl) rfl) Tryd.underlying5 rfl (X0.out _ (next_below hB H.frame) 0 _ rfl) (by kernel_rfl)) hK) ?_
        refine gr_val rfl (by kernel_rfl) (fun a V H K Q hK => op_quiet (quiet_fld _ (.tmp 2) 2 _ _ (H.old 2 (by kernel_rfl) (by kernel_rfl)) (fR2 _ 0) (by kernel_rfl)) hK) ?_
        refine gr_val rfl (by kernel_rfl) (fun a V H K Q hK => op_quiet (quiet_agg _ (.tmp 23) _ 4 (H.rel 12 23 (by kernel_rfl) (by kernel_rfl) rfl) #[.bool ia2, .bool pa2, .slice A2 n2 c2] (fun j v hj => X0.out _ (next_below hB H.frame) _ v (part_at 4 ⟨_, rfl⟩ j v hj)) Tryd.underlying29 rfl (by kernel_rfl) (by kernel_rfl)) hK) ?_
        refine gr_val rfl (by kernel_rfl) (fun a V H K Q hK => op_quiet (quiet_fld _ (.tmp 3) 2 _ _ (H.old 3 (by kernel_rfl) (by kernel_rfl)) (fR2 _ 0) (by kernel_rfl)) hK) ?_
        refine gr_val rfl (by kernel_rfl) (fun a V H K Q hK => op_quiet (quiet_agg _ (.tmp 25) _ 4 (H.rel 14 25 (by kernel_rfl) (by kernel_rfl) rfl) #[.bool ib2, .bool pb2, .slice A4 n4 c4] (fun j v hj => X1.out _ (next_below hB H.frame) _ v (part_at 4 ⟨_, rfl⟩ j v hj)) Tryd.underlying29 rfl (by kernel_rfl) (by kernel_rfl)) hK) ?_
        refine gr_val rfl (by kernel_rfl) (fun a V H K Q hK => op_callK _ #[.int .u8 oa, .int .i64 (-1), .agg #[.bool ia2, .bool pa2, .slice A2 n2 c2], .agg #[.bool ib2, .bool pb2, .slice A4 n4 c4]] (by kernel_rfl) (by kernel_rfl) (by kernel_rfl) (map4N (H.rel 11 22 (by kernel_rfl) (by kernel_rfl) rfl) (show a.eval (.const (.int .i64 (-1))) = .int .i64 (-1) from rfl) (H.rel 13 24 (by kernel_rfl) (by kernel_rfl) rfl) (H.rel 15 26 (by kernel_rfl) (by kernel_rfl) rfl)) (K4.out _ (next_below hB H.frame)) (by kernel_rfl) hK) ?_
        refine gr_is rfl (by kernel_rfl) (fun a V H K Q hK => op_callR #[.tmp 27] #[.agg #[.bool ia2, .bool pa2, .slice A2 n2 c2]] (by kernel_rfl) (by kernel_rfl) (by kernel_rfl) (map1 (H.rel 16 27 (by kernel_rfl) (by kernel_rfl) rfl)) (C2.out V (next_below hB H.frame)) (by kernel_rfl) hK) ?_
        refine gr_is rfl (by kernel_rfl) (fun a V H K Q hK => by
          obtain ⟨A9, c9, e9, h9, hL9⟩ : BdV w0.heap.size ib1 pb1 n3 l3 (a.eval (.tmp 20)) V := (H.rel 9 20 (by kernel_rfl) (by kernel_rfl) rfl)
          obtain ⟨A8, c8, e8, h8, hL8⟩ : BdV w0.heap.size ia2 pa2 n2 l2 (a.eval (.tmp 28)) V := (H.rel 17 28 (by kernel_rfl) (by kernel_rfl) rfl)
          exact op_quiet (quiet_bld 31 _ _ (bld3 (a := 0) (b := 1) (c := 2) (H.rel 1 12 (by kernel_rfl) (by kernel_rfl) rfl) e9 e8) #[.int .u8 oa, .bool ib1, .bool pb1, .slice A9 n3 c9, .bool ia2, .bool pa2, .slice A8 n2 c8] (by kernel_rfl) (by kernel_rfl)) fun V' hb => hK _ V' hb ⟨A9, c9, A8, c8, rfl, h9.next hb, hL9, h8.next hb, hL8⟩) ?_
        exact gr_nil
      case hf01 =>
        intro x V hF
        have ev0 : x 0 = .pointer (some ⟨w.heap.size, 0, none⟩) := hF.rel 0 _ rfl
        have ev1 : x 1 = .int .u8 oa := hF.rel 1 _ rfl
        have ev2 : x 2 = .pointer (some ⟨w.heap.size, 0, none⟩) := hF.rel 2 _ rfl
        have ev3 : x 3 = .int .u8 oa := hF.rel 3 _ rfl
        have ev4 : x 4 = .pointer (some ⟨w.heap.size, 1, none⟩) := hF.rel 4 _ rfl
        have ev5 : x 5 = .agg #[.bool ia1, .bool pa1, .slice A1 n1 c1] := hF.rel 5 _ rfl
        have ev6 : x 6 = .pointer (some ⟨w.heap.size + 1, 1, none⟩) := hF.rel 6 _ rfl
        have ev7 : x 7 = .agg #[.bool ib1, .bool pb1, .slice A3 n3 c3] := hF.rel 7 _ rfl
        have ev8 : x 8 = .agg #[.bool ib1, .bool pb1, .slice A3 n3 c3] := hF.rel 8 _ rfl
        have rv9 := hF.rel 9 _ rfl
        generalize hy9 : x 9 = y9 at rv9 ⊢
        have ev10 : x 10 = .pointer (some ⟨w.heap.size, 0, none⟩) := hF.rel 10 _ rfl
        have ev11 : x 11 = .int .u8 oa := hF.rel 11 _ rfl
        have ev12 : x 12 = .pointer (some ⟨w.heap.size, 4, none⟩) := hF.rel 12 _ rfl
        have ev13 : x 13 = .agg #[.bool ia2, .bool pa2, .slice A2 n2 c2] := hF.rel 13 _ rfl
        have ev14 : x 14 = .pointer (some ⟨w.heap.size + 1, 4, none⟩) := hF.rel 14 _ rfl
        have ev15 : x 15 = .agg #[.bool ib2, .bool pb2, .slice A4 n4 c4] := hF.rel 15 _ rfl
        have ev16 : x 16 = .agg #[.bool ia2, .bool pa2, .slice A2 n2 c2] := hF.rel 16 _ rfl
        have rv17 := hF.rel 17 _ rfl
        generalize hy17 : x 17 = y17 at rv17 ⊢
        have rv18 := hF.rel 18 _ rfl
        generalize hy18 : x 18 = y18 at rv18 ⊢
        have hbf := hF.frame
        clear hF
        simp only [Sch.finL, List.setIfInBounds_toArray, List.set_cons_zero, List.set_cons_succ, ev0, ev1, ev2, ev3, ev4, ev5, ev6, ev7, ev8, hy9, ev10, ev11, ev12, ev13, ev14, ev15, ev16, hy17, hy18]
        clear ev0 ev1 ev2 ev3 ev4 ev5 ev6 ev7 ev8 hy9 ev10 ev11 ev12 ev13 ev14 ev15 ev16 hy17 hy18
        obtain ⟨A9, c9, A8, c8, e9, h9, hL9, h8, hL8⟩ := rv18
        subst e9
        have hB9 := next_below hB hbf
        refine wpList_store_row rfl 31 (.tmp 4) (.tmp 29) rfl (w.heap.size + 1 + 1) _ rfl rfl 31 #[.int .u8 0, .bool false, .bool false, .slice none 0 0, .bool false, .bool false, .slice none 0 0] (KZ.out _ hB9) infoRg rfl (by simp [Value.oneCell']) ?_
        go_wp2_with fail
        exact bodyPost_ret (results_st_tmp Tryd.results20 _ _ (w.heap.size + 1 + 1) 31 _ _ _ rfl rfl ((KZ.out _ hB9).row _) Tryd.underlying31 rfl infoRg) rfl ⟨_, rfl, ⟨A9, n3, c9, A8, n2, c8, rfl, hor, h9.row11 (fun ad h => by have := hL9 ad h; have := HG.out; omega) _, h8.row11 (fun ad h => by have := hL8 ad h; have := HG.out; omega) _⟩, below_row (next_below HB0.out hB9) hgt _⟩
    · try simp only [Act.put]
      refine wp_R [11, 12, 13, 14, 15, 16, 17, 18, 19, 20, 21, 22, 23, 24, 25, 26, 27, 28, 29] [Rk.val (.pointer (some ⟨w.heap.size, 0, none⟩)), Rk.val (.int .u8 oa), Rk.val (.pointer (some ⟨w.heap.size, 0, none⟩)), Rk.val (.int .u8 oa), Rk.val (.pointer (some ⟨w.heap.size, 1, none⟩)), Rk.val (.agg #[.bool ia1, .bool pa1, .slice A1 n1 c1]), Rk.val (.pointer (some ⟨w.heap.size + 1, 1, none⟩)), Rk.val (.agg #[.bool ib1, .bool pb1, .slice A3 n3 c3]), Rk.val (.agg #[.bool ia1, .bool pa1, .slice A1 n1 c1]), Rk.is (BdV w0.heap.size ia1 pa1 n1 l1) (BdV.keep), Rk.val (.pointer (some ⟨w.heap.size, 0, none⟩)), Rk.val (.int .u8 oa), Rk.val (.pointer (some ⟨w.heap.size, 4, none⟩)), Rk.val (.agg #[.bool ia2, .bool pa2, .slice A2 n2 c2]), Rk.val (.pointer (some ⟨w.heap.size + 1, 4, none⟩)), Rk.val (.agg #[.bool ib2, .bool pb2, .slice A4 n4 c4]), Rk.val (.agg #[.bool ib2, .bool pb2, .slice A4 n4 c4]), Rk.is (BdV w0.heap.size ib2 pb2 n4 l4) (BdV.keep), Rk.is (fun v V => ∃ A c A2 c2, v = .agg #[.int .u8 oa, .bool ia1, .bool pa1, .slice A n1 c, .bool ib2, .bool pb2, .slice A2 n4 c2] ∧ SlAt V V.heap.size A n1 c l1 ∧ (∀ ad, A = some ad → w0.heap.size ≤ ad.block) ∧ SlAt V V.heap.size A2 n4 c2 l4 ∧ (∀ ad, A2 = some ad → w0.heap.size ≤ ad.block)) (fun v V V' ⟨A, c, A2, c2, e, g1, g2, g3, g4⟩ hb => ⟨A, c, A2, c2, e, g1.next hb, g2, g3.next hb, g4⟩)] rfl (by kernel_rfl) (by kernel_rfl) (by kernel_rfl) (by kernel_rfl) ?hg10 _ (by rfl) ?hf10
      case hg10 =>
        refine gr_val rfl (by kernel_rfl) (fun a V H K Q hK => op_quiet (quiet_fld _ (.tmp 2) 0 _ _ (H.old 2 (by kernel_rfl) (by kernel_rfl)) (fR0 _ 0) (by kernel_rfl)) hK) ?_
        refine gr_val rfl (by kernel_rfl) (fun a V H K Q hK => op_quiet (quiet_cell _ (.tmp 11) _ (H.rel 0 11 (by kernel_rfl) (by kernel_rfl) rfl) Tryd.underlying5 rfl (X0.out _ (next_below hB H.frame) 0 _ rfl) (by kernel_rfl)) hK) ?_
        refine gr_val rfl (by kernel_rfl) (fun a V H K Q hK => op_quiet (quiet_fld _ (.tmp 2) 0 _ _ (H.old 2 (by kernel_rfl) (by kernel_rfl)) (fR0 _ 0) (by kernel_rfl)) hK) ?_
        refine gr_val rfl (by kernel_rfl) (fun a V H K Q hK => op_quiet (quiet_cell _ (.tmp 13) _ (H.rel 2 13 (by kernel_rfl) (by kernel_rfl) rfl) Tryd.underlying5 rfl (X0.out _ (next_below hB H.frame) 0 _ rfl) (by kernel_rfl)) hK) ?_
        refine gr_val rfl (by kernel_rfl) (fun a V H K Q hK => op_quiet (quiet_fld _ (.tmp 2) 1 _ _ (H.old 2 (by kernel_rfl) (by kernel_rfl)) (fR1 _ 0) (by kernel_rfl)) hK) ?_
        refine gr_val rfl (by kernel_rfl) (fun a V H K Q hK => op_quiet (quiet_agg _ (.tmp 15) _ 1 (H.rel 4 15 (by kernel_rfl) (by kernel_rfl) rfl) #[.bool ia1, .bool pa1, .slice A1 n1 c1] (fun j v hj => X0.out _ (next_below hB H.frame) _ v (part_at 1 ⟨_, rfl⟩ j v hj)) Tryd.underlying29 rfl (by kernel_rfl) (by kernel_rfl)) hK) ?_
        refine gr_val rfl (by kernel_rfl) (fun a V H K Q hK => op_quiet (quiet_fld _ (.tmp 3) 1 _ _ (H.old 3 (by kernel_rfl) (by kernel_rfl)) (fR1 _ 0) (by kernel_rfl)) hK) ?_
        refine gr_val rfl (by kernel_rfl) (fun a V H K Q hK => op_quiet (quiet_agg _ (.tmp 17) _ 1 (H.rel 6 17 (by kernel_rfl) (by kernel_rfl) rfl) #[.bool ib1, .bool pb1, .slice A3 n3 c3] (fun j v hj => X1.out _ (next_below hB H.frame) _ v (part_at 1 ⟨_, rfl⟩ j v hj)) Tryd.underlying29 rfl (by kernel_rfl) (by kernel_rfl)) hK) ?_
        refine gr_val rfl (by kernel_rfl) (fun a V H K Q hK => op_callK _ #[.int .u8 oa, .int .i64 1, .agg #[.bool ia1, .bool pa1, .slice A1 n1 c1], .agg #[.bool ib1, .bool pb1, .slice A3 n3 c3]] (by kernel_rfl) (by kernel_rfl) (by kernel_rfl) (map4N (H.rel 3 14 (by kernel_rfl) (by kernel_rfl) rfl) (show a.eval (.const (.int .i64 1)) = .int .i64 1 from rfl) (H.rel 5 16 (by kernel_rfl) (by kernel_rfl) rfl) (H.rel 7 18 (by kernel_rfl) (by kernel_rfl) rfl)) (K3.out _ (next_below hB H.frame)) (by kernel_rfl) hK) ?_
        refine gr_is rfl (by kernel_rfl) (fun a V H K Q hK => op_callR #[.tmp 19] #[.agg #[.bool ia1, .bool pa1, .slice A1 n1 c1]] (by kernel_rfl) (by kernel_rfl) (by kernel_rfl) (map1 (H.rel 8 19 (by kernel_rfl) (by kernel_rfl) rfl)) (C1.out V (next_below hB H.frame)) (by kernel_rfl) hK) ?_
        refine gr_val rfl (by kernel_rfl) (fun a V H K Q hK => op_quiet (quiet_fld _ (.tmp 2) 0 _ _ (H.old 2 (by kernel_rfl) (by kernel_rfl)) (fR0 _ 0) (by kernel_rfl)) hK) ?_
        refine gr_val rfl (by kernel_rfl) (fun a V H K Q hK => op_quiet (quiet_cell _ (.tmp 21) _ (H.rel 10 21 (by kernel_rfl) (by kernel_rfl) rfl) Tryd.underlying5 rfl (X0.out _ (next_below hB H.frame) 0 _ rfl) (by kernel_rfl)) hK) ?_
        refine gr_val rfl (by kernel_rfl) (fun a V H K Q hK => op_quiet (quiet_fld _ (.tmp 2) 2 _ _ (H.old 2 (by kernel_rfl) (by kernel_rfl)) (fR2 _ 0) (by kernel_rfl)) hK) ?_
        refine gr_val rfl (by kernel_rfl) (fun a V H K Q hK => op_quiet (quiet_agg _ (.tmp 23) _ 4 (H.rel 12 23 (by kernel_rfl) (by kernel_rfl) rfl) #[.bool ia2, .bool pa2, .slice A2 n2 c2] (fun j v hj => X0.out _ (next_below hB H.frame) _ v (part_at 4 ⟨_, rfl⟩ j v hj)) Tryd.underlying29 rfl (by kernel_rfl) (by kernel_rfl)) hK) ?_
        refine gr_val rfl (by kernel_rfl) (fun a V H K Q hK => op_quiet (quiet_fld _ (.tmp 3) 2 _ _ (H.old 3 (by kernel_rfl) (by kernel_rfl)) (fR2 _ 0) (by kernel_rfl)) hK) ?_
        refine gr_val rfl (by kernel_rfl) (fun a V H K Q hK => op_quiet (quiet_agg _ (.tmp 25) _ 4 (H.rel 14 25 (by kernel_rfl) (by kernel_rfl) rfl) #[.bool ib2, .bool pb2, .slice A4 n4 c4] (fun j v hj => X1.out _ (next_below hB H.frame) _ v (part_at 4 ⟨_, rfl⟩ j v hj)) Tryd.underlying29 rfl (by kernel_rfl) (by kernel_rfl)) hK) ?_
        refine gr_val rfl (by kernel_rfl) (fun a V H K Q hK => op_callK _ #[.int .u8 oa, .int .i64 (-1), .agg #[.bool ia2, .bool pa2, .slice A2 n2 c2], .agg #[.bool ib2, .bool pb2, .slice A4 n4 c4]] (by kernel_rfl) (by kernel_rfl) (by kernel_rfl) (map4N (H.rel 11 22 (by kernel_rfl) (by kernel_rfl) rfl) (show a.eval (.const (.int .i64 (-1))) = .int .i64 (-1) from rfl) (H.rel 13 24 (by kernel_rfl) (by kernel_rfl) rfl) (H.rel 15 26 (by kernel_rfl) (by kernel_rfl) rfl)) (K4.out _ (next_below hB H.frame)) (by kernel_rfl) hK) ?_
        refine gr_is rfl (by kernel_rfl) (fun a V H K Q hK => op_callR #[.tmp 27] #[.agg #[.bool ib2, .bool pb2, .slice A4 n4 c4]] (by kernel_rfl) (by kernel_rfl) (by kernel_rfl) (map1 (H.rel 16 27 (by kernel_rfl) (by kernel_rfl) rfl)) (C4.out V (next_below hB H.frame)) (by kernel_rfl) hK) ?_
        refine gr_is rfl (by kernel_rfl) (fun a V H K Q hK => by
          obtain ⟨A9, c9, e9, h9, hL9⟩ : BdV w0.heap.size ia1 pa1 n1 l1 (a.eval (.tmp 20)) V := (H.rel 9 20 (by kernel_rfl) (by kernel_rfl) rfl)
          obtain ⟨A8, c8, e8, h8, hL8⟩ : BdV w0.heap.size ib2 pb2 n4 l4 (a.eval (.tmp 28)) V := (H.rel 17 28 (by kernel_rfl) (by kernel_rfl) rfl)
          exact op_quiet (quiet_bld 31 _ _ (bld3 (a := 0) (b := 1) (c := 2) (H.rel 1 12 (by kernel_rfl) (by kernel_rfl) rfl) e9 e8) #[.int .u8 oa, .bool ia1, .bool pa1, .slice A9 n1 c9, .bool ib2, .bool pb2, .slice A8 n4 c8] (by kernel_rfl) (by kernel_rfl)) fun V' hb => hK _ V' hb ⟨A9, c9, A8, c8, rfl, h9.next hb, hL9, h8.next hb, hL8⟩) ?_
        exact gr_nil
      case hf10 =>
        intro x V hF
        have ev0 : x 0 = .pointer (some ⟨w.heap.size, 0, none⟩) := hF.rel 0 _ rfl
        have ev1 : x 1 = .int .u8 oa := hF.rel 1 _ rfl
        have ev2 : x 2 = .pointer (some ⟨w.heap.size, 0, none⟩) := hF.rel 2 _ rfl
        have ev3 : x 3 = .int .u8 oa := hF.rel 3 _ rfl
        have ev4 : x 4 = .pointer (some ⟨w.heap.size, 1, none⟩) := hF.rel 4 _ rfl
        have ev5 : x 5 = .agg #[.bool ia1, .bool pa1, .slice A1 n1 c1] := hF.rel 5 _ rfl
        have ev6 : x 6 = .pointer (some ⟨w.heap.size + 1, 1, none⟩) := hF.rel 6 _ rfl
        have ev7 : x 7 = .agg #[.bool ib1, .bool pb1, .slice A3 n3 c3] := hF.rel 7 _ rfl
        have ev8 : x 8 = .agg #[.bool ia1, .bool pa1, .slice A1 n1 c1] := hF.rel 8 _ rfl
        have rv9 := hF.rel 9 _ rfl
        generalize hy9 : x 9 = y9 at rv9 ⊢
        have ev10 : x 10 = .pointer (some ⟨w.heap.size, 0, none⟩) := hF.rel 10 _ rfl
        have ev11 : x 11 = .int .u8 oa := hF.rel 11 _ rfl
        have ev12 : x 12 = .pointer (some ⟨w.heap.size, 4, none⟩) := hF.rel 12 _ rfl
        have ev13 : x 13 = .agg #[.bool ia2, .bool pa2, .slice A2 n2 c2] := hF.rel 13 _ rfl
        have ev14 : x 14 = .pointer (some ⟨w.heap.size + 1, 4, none⟩) := hF.rel 14 _ rfl
        have ev15 : x 15 = .agg #[.bool ib2, .bool pb2, .slice A4 n4 c4] := hF.rel 15 _ rfl
        have ev16 : x 16 = .agg #[.bool ib2, .bool pb2, .slice A4 n4 c4] := hF.rel 16 _ rfl
        have rv17 := hF.rel 17 _ rfl
        generalize hy17 : x 17 = y17 at rv17 ⊢
        have rv18 := hF.rel 18 _ rfl
        generalize hy18 : x 18 = y18 at rv18 ⊢
        have hbf := hF.frame
        clear hF
        simp only [Sch.finL, List.setIfInBounds_toArray, List.set_cons_zero, List.set_cons_succ, ev0, ev1, ev2, ev3, ev4, ev5, ev6, ev7, ev8, hy9, ev10, ev11, ev12, ev13, ev14, ev15, ev16, hy17, hy18]
        clear ev0 ev1 ev2 ev3 ev4 ev5 ev6 ev7 ev8 hy9 ev10 ev11 ev12 ev13 ev14 ev15 ev16 hy17 hy18
        obtain ⟨A9, c9, A8, c8, e9, h9, hL9, h8, hL8⟩ := rv18
        subst e9
        have hB9 := next_below hB hbf
        refine wpList_store_row rfl 31 (.tmp 4) (.tmp 29) rfl (w.heap.size + 1 + 1) _ rfl rfl 31 #[.int .u8 0, .bool false, .bool false, .slice none 0 0, .bool false, .bool false, .slice none 0 0] (KZ.out _ hB9) infoRg rfl (by simp [Value.oneCell']) ?_
        go_wp2_with fail
        exact bodyPost_ret (results_st_tmp Tryd.results20 _ _ (w.heap.size + 1 + 1) 31 _ _ _ rfl rfl ((KZ.out _ hB9).row _) Tryd.underlying31 rfl infoRg) rfl ⟨_, rfl, ⟨A9, n1, c9, A8, n4, c8, rfl, hor, h9.row11 (fun ad h => by have := hL9 ad h; have := HG.out; omega) _, h8.row11 (fun ad h => by have := hL8 ad h; have := HG.out; omega) _⟩, below_row (next_below HB0.out hB9) hgt _⟩
    · try simp only [Act.put]
      refine wp_R [11, 12, 13, 14, 15, 16, 17, 18, 19, 20, 21, 22, 23, 24, 25, 26, 27, 28, 29] [Rk.val (.pointer (some ⟨w.heap.size, 0, none⟩)), Rk.val (.int .u8 oa), Rk.val (.pointer (some ⟨w.heap.size, 0, none⟩)), Rk.val (.int .u8 oa), Rk.val (.pointer (some ⟨w.heap.size, 1, none⟩)), Rk.val (.agg #[.bool ia1, .bool pa1, .slice A1 n1 c1]), Rk.val (.pointer (some ⟨w.heap.size + 1, 1, none⟩)), Rk.val (.agg #[.bool ib1, .bool pb1, .slice A3 n3 c3]), Rk.val (.agg #[.bool ia1, .bool pa1, .slice A1 n1 c1]), Rk.is (BdV w0.heap.size ia1 pa1 n1 l1) (BdV.keep), Rk.val (.pointer (some ⟨w.heap.size, 0, none⟩)), Rk.val (.int .u8 oa), Rk.val (.pointer (some ⟨w.heap.size, 4, none⟩)), Rk.val (.agg #[.bool ia2, .bool pa2, .slice A2 n2 c2]), Rk.val (.pointer (some ⟨w.heap.size + 1, 4, none⟩)), Rk.val (.agg #[.bool ib2, .bool pb2, .slice A4 n4 c4]), Rk.val (.agg #[.bool ia2, .bool pa2, .slice A2 n2 c2]), Rk.is (BdV w0.heap.size ia2 pa2 n2 l2) (BdV.keep), Rk.is (fun v V => ∃ A c A2 c2, v = .agg #[.int .u8 oa, .bool ia1, .bool pa1, .slice A n1 c, .bool ia2, .bool pa2, .slice A2 n2 c2] ∧ SlAt V V.heap.size A n1 c l1 ∧ (∀ ad, A = some ad → w0.heap.size ≤ ad.block) ∧ SlAt V V.heap.size A2 n2 c2 l2 ∧ (∀ ad, A2 = some ad → w0.heap.size ≤ ad.block)) (fun v V V' ⟨A, c, A2, c2, e, g1, g2, g3, g4⟩ hb => ⟨A, c, A2, c2, e, g1.next hb, g2, g3.next hb, g4⟩)] rfl (by kernel_rfl) (by kernel_rfl) (by kernel_rfl) (by kernel_rfl) ?hg11 _ (by rfl) ?hf11
      case hg11 =>
        refine gr_val rfl (by kernel_rfl) (fun a V H K Q hK => op_quiet (quiet_fld _ (.tmp 2) 0 _ _ (H.old 2 (by kernel_rfl) (by kernel_rfl)) (fR0 _ 0) (by kernel_rfl)) hK) ?_
        refine gr_val rfl (by kernel_rfl) (fun a V H K Q hK => op_quiet (quiet_cell _ (.tmp 11) _ (H.rel 0 11 (by kernel_rfl) (by kernel_rfl) rfl) Tryd.underlying5 rfl (X0.out _ (next_below hB H.frame) 0 _ rfl) (by kernel_rfl)) hK) ?_
        refine gr_val rfl (by kernel_rfl) (fun a V H K Q hK => op_quiet (quiet_fld _ (.tmp 2) 0 _ _ (H.old 2 (by kernel_rfl) (by kernel_rfl)) (fR0 _ 0) (by kernel_rfl)) hK) ?_
        refine gr_val rfl (by kernel_rfl) (fun a V H K Q hK => op_quiet (quiet_cell _ (.tmp 13) _ (H.rel 2 13 (by kernel_rfl) (by kernel_rfl) rfl) Tryd.underlying5 rfl (X0.out _ (next_below hB H.frame) 0 _ rfl) (by kernel_rfl)) hK) ?_
        refine gr_val rfl (by kernel_rfl) (fun a V H K Q hK => op_quiet (quiet_fld _ (.tmp 2) 1 _ _ (H.old 2 (by kernel_rfl) (by kernel_rfl)) (fR1 _ 0) (by kernel_rfl)) hK) ?_
        refine gr_val rfl (by kernel_rfl) (fun a V H K Q hK => op_quiet (quiet_agg _ (.tmp 15) _ 1 (H.rel 4 15 (by kernel_rfl) (by kernel_rfl) rfl) #[.bool ia1, .bool pa1, .slice A1 n1 c1] (fun j v hj => X0.out _ (next_below hB H.frame) _ v (part_at 1 ⟨_, rfl⟩ j v hj)) Tryd.underlying29 rfl (by kernel_rfl) (by kernel_rfl)) hK) ?_
        refine gr_val rfl (by kernel_rfl) (fun a V H K Q hK => op_quiet (quiet_fld _ (.tmp 3) 1 _ _ (H.old 3 (by kernel_rfl) (by kernel_rfl)) (fR1 _ 0) (by kernel_rfl)) hK) ?_
        refine gr_val rfl (by kernel_rfl) (fun a V H K Q hK => op_quiet (quiet_agg _ (.tmp 17) _ 1 (H.rel 6 17 (by kernel_rfl) (by kernel_rfl) rfl) #[.bool ib1, .bool pb1, .slice A3 n3 c3] (fun j v hj => X1.out _ (next_below hB H.frame) _ v (part_at 1 ⟨_, rfl⟩ j v hj)) Tryd.underlying29 rfl (by kernel_rfl) (by kernel_rfl)) hK) ?_
        refine gr_val rfl (by kernel_rfl) (fun a V H K Q hK => op_callK _ #[.int .u8 oa, .int .i64 1, .agg #[.bool ia1, .bool pa1, .slice A1 n1 c1], .agg #[.bool ib1, .bool pb1, .slice A3 n3 c3]] (by kernel_rfl) (by kernel_rfl) (by kernel_rfl) (map4N (H.rel 3 14 (by kernel_rfl) (by kernel_rfl) rfl) (show a.eval (.const (.int .i64 1)) = .int .i64 1 from rfl) (H.rel 5 16 (by kernel_rfl) (by kernel_rfl) rfl) (H.rel 7 18 (by kernel_rfl) (by kernel_rfl) rfl)) (K3.out _ (next_below hB H.frame)) (by kernel_rfl) hK) ?_
        refine gr_is rfl (by kernel_rfl) (fun a V H K Q hK => op_callR #[.tmp 19] #[.agg #[.bool ia1, .bool pa1, .slice A1 n1 c1]] (by kernel_rfl) (by kernel_rfl) (by kernel_rfl) (map1 (H.rel 8 19 (by kernel_rfl) (by kernel_rfl) rfl)) (C1.out V (next_below hB H.frame)) (by kernel_rfl) hK) ?_
        refine gr_val rfl (by kernel_rfl) (fun a V H K Q hK => op_quiet (quiet_fld _ (.tmp 2) 0 _ _ (H.old 2 (by kernel_rfl) (by kernel_rfl)) (fR0 _ 0) (by kernel_rfl)) hK) ?_
        refine gr_val rfl (by kernel_rfl) (fun a V H K Q hK => op_quiet (quiet_cell _ (.tmp 21) _ (H.rel 10 21 (by kernel_rfl) (by kernel_rfl) rfl) Tryd.underlying5 rfl (X0.out _ (next_below hB H.frame) 0 _ rfl) (by kernel_rfl)) hK) ?_
        refine gr_val rfl (by kernel_rfl) (fun a V H K Q hK => op_quiet (quiet_fld _ (.tmp 2) 2 _ _ (H.old 2 (by kernel_rfl) (by kernel_rfl)) (fR2 _ 0) (by kernel_rfl)) hK) ?_
        refine gr_val rfl (by kernel_rfl) (fun a V H K Q hK => op_quiet (quiet_agg _ (.tmp 23) _ 4 (H.rel 12 23 (by kernel_rfl) (by kernel_rfl) rfl) #[.bool ia2, .bool pa2, .slice A2 n2 c2] (fun j v hj => X0.out _ (next_below hB H.frame) _ v (part_at 4 ⟨_, rfl⟩ j v hj)) Tryd.underlying29 rfl (by kernel_rfl) (by kernel_rfl)) hK) ?_
        refine gr_val rfl (by kernel_rfl) (fun a V H K Q hK => op_quiet (quiet_fld _ (.tmp 3) 2 _ _ (H.old 3 (by kernel_rfl) (by kernel_rfl)) (fR2 _ 0) (by kernel_rfl)) hK) ?_
        refine gr_val rfl (by kernel_rfl) (fun a V H K Q hK => op_quiet (quiet_agg _ (.tmp 25) _ 4 (H.rel 14 25 (by kernel_rfl) (by kernel_rfl) rfl) #[.bool ib2, .bool pb2, .slice A4 n4 c4] (fun j v hj => X1.out _ (next_below hB H.frame) _ v (part_at 4 ⟨_, rfl⟩ j v hj)) Tryd.underlying29 rfl (by kernel_rfl) (by kernel_rfl)) hK) ?_
        refine gr_val rfl (by kernel_rfl) (fun a V H K Q hK => op_callK _ #[.int .u8 oa, .int .i64 (-1), .agg #[.bool ia2, .bool pa2, .slice A2 n2 c2], .agg #[.bool ib2, .bool pb2, .slice A4 n4 c4]] (by kernel_rfl) (by kernel_rfl) (by kernel_rfl) (map4N (H.rel 11 22 (by kernel_rfl) (by kernel_rfl) rfl) (show a.eval (.const (.int .i64 (-1))) = .int .i64 (-1) from rfl) (H.rel 13 24 (by kernel_rfl) (by kernel_rfl) rfl) (H.rel 15 26 (by kernel_rfl) (by kernel_rfl) rfl)) (K4.out _ (next_below hB H.frame)) (by kernel_rfl) hK) ?_
        refine gr_is rfl (by kernel_rfl) (fun a V H K Q hK => op_callR #[.tmp 27] #[.agg #[.bool ia2, .bool pa2, .slice A2 n2 c2]] (by kernel_rfl) (by kernel_rfl) (by kernel_rfl) (map1 (H.rel 16 27 (by kernel_rfl) (by kernel_rfl) rfl)) (C2.out V (next_below hB H.frame)) (by kernel_rfl) hK) ?_
        refine gr_is rfl (by kernel_rfl) (fun a V H K Q hK => by
          obtain ⟨A9, c9, e9, h9, hL9⟩ : BdV w0.heap.size ia1 pa1 n1 l1 (a.eval (.tmp 20)) V := (H.rel 9 20 (by kernel_rfl) (by kernel_rfl) rfl)
          obtain ⟨A8, c8, e8, h8, hL8⟩ : BdV w0.heap.size ia2 pa2 n2 l2 (a.eval (.tmp 28)) V := (H.rel 17 28 (by kernel_rfl) (by kernel_rfl) rfl)
          exact op_quiet (quiet_bld 31 _ _ (bld3 (a := 0) (b := 1) (c := 2) (H.rel 1 12 (by kernel_rfl) (by kernel_rfl) rfl) e9 e8) #[.int .u8 oa, .bool ia1, .bool pa1, .slice A9 n1 c9, .bool ia2, .bool pa2, .slice A8 n2 c8] (by kernel_rfl) (by kernel_rfl)) fun V' hb => hK _ V' hb ⟨A9, c9, A8, c8, rfl, h9.next hb, hL9, h8.next hb, hL8⟩) ?_
        exact gr_nil
      case hf11 =>
        intro x V hF
        have ev0 : x 0 = .pointer (some ⟨w.heap.size, 0, none⟩) := hF.rel 0 _ rfl
        have ev1 : x 1 = .int .u8 oa := hF.rel 1 _ rfl
        have ev2 : x 2 = .pointer (some ⟨w.heap.size, 0, none⟩) := hF.rel 2 _ rfl
        have ev3 : x 3 = .int .u8 oa := hF.rel 3 _ rfl
        have ev4 : x 4 = .pointer (some ⟨w.heap.size, 1, none⟩) := hF.rel 4 _ rfl
        have ev5 : x 5 = .agg #[.bool ia1, .bool pa1, .slice A1 n1 c1] := hF.rel 5 _ rfl
        have ev6 : x 6 = .pointer (some ⟨w.heap.size + 1, 1, none⟩) := hF.rel 6 _ rfl
        have ev7 : x 7 = .agg #[.bool ib1, .bool pb1, .slice A3 n3 c3] := hF.rel 7 _ rfl
        have ev8 : x 8 = .agg #[.bool ia1, .bool pa1, .slice A1 n1 c1] := hF.rel 8 _ rfl
        have rv9 := hF.rel 9 _ rfl
        generalize hy9 : x 9 = y9 at rv9 ⊢
        have ev10 : x 10 = .pointer (some ⟨w.heap.size, 0, none⟩) := hF.rel 10 _ rfl
        have ev11 : x 11 = .int .u8 oa := hF.rel 11 _ rfl
        have ev12 : x 12 = .pointer (some ⟨w.heap.size, 4, none⟩) := hF.rel 12 _ rfl
        have ev13 : x 13 = .agg #[.bool ia2, .bool pa2, .slice A2 n2 c2] := hF.rel 13 _ rfl
        have ev14 : x 14 = .pointer (some ⟨w.heap.size + 1, 4, none⟩) := hF.rel 14 _ rfl
        have ev15 : x 15 = .agg #[.bool ib2, .bool pb2, .slice A4 n4 c4] := hF.rel 15 _ rfl
        have ev16 : x 16 = .agg #[.bool ia2, .bool pa2, .slice A2 n2 c2] := hF.rel 16 _ rfl
        have rv17 := hF.rel 17 _ rfl
        generalize hy17 : x 17 = y17 at rv17 ⊢
        have rv18 := hF.rel 18 _ rfl
        generalize hy18 : x 18 = y18 at rv18 ⊢
        have hbf := hF.frame
        clear hF
        simp only [Sch.finL, List.setIfInBounds_toArray, List.set_cons_zero, List.set_cons_succ, ev0, ev1, ev2, ev3, ev4, ev5, ev6, ev7, ev8, hy9, ev10, ev11, ev12, ev13, ev14, ev15, ev16, hy17, hy18]
        clear ev0 ev1 ev2 ev3 ev4 ev5 ev6 ev7 ev8 hy9 ev10 ev11 ev12 ev13 ev14 ev15 ev16 hy17 hy18
        obtain ⟨A9, c9, A8, c8, e9, h9, hL9, h8, hL8⟩ := rv18
        subst e9
        have hB9 := next_below hB hbf
        refine wpList_store_row rfl 31 (.tmp 4) (.tmp 29) rfl (w.heap.size + 1 + 1) _ rfl rfl 31 #[.int .u8 0, .bool false, .bool false, .slice none 0 0, .bool false, .bool false, .slice none 0 0] (KZ.out _ hB9) infoRg rfl (by simp [Value.oneCell']) ?_
        go_wp2_with fail
        exact bodyPost_ret (results_st_tmp Tryd.results20 _ _ (w.heap.size + 1 + 1) 31 _ _ _ rfl rfl ((KZ.out _ hB9).row _) Tryd.underlying31 rfl infoRg) rfl ⟨_, rfl, ⟨A9, n1, c9, A8, n2, c8, rfl, hor, h9.row11 (fun ad h => by have := hL9 ad h; have := HG.out; omega) _, h8.row11 (fun ad h => by have := hL8 ad h; have := HG.out; omega) _⟩, below_row (next_below HB0.out hB9) hgt _⟩
/-- The program's package order keeps its contracts. -/
theorem orderOk : OrderOk (fun _ => True) where
  old _ _ := trivial
  is o ho _ _ _ _ _ _ h := pIs11 o ho h
  cmp o ho _ _ _ _ _ _ _ _ _ _ h h' := pCompare11 o ho h h'
  may _ h := by
    obtain ⟨A1, n1, c1, A2, n2, c2, rfl, ho, h1, h2⟩ := h
    exact pMay11 _ ho _ h1 h2
  in_ _ h h3 := by
    obtain ⟨A1, n1, c1, A2, n2, c2, rfl, ho, h1, h2⟩ := h
    exact pIn11 _ ho _ h1 h2 h3
  meet _ h h' := by
    obtain ⟨A1, n1, c1, A2, n2, c2, rfl, ho, h1, h2⟩ := h
    obtain ⟨A3, n3, c3, A4, n4, c4, rfl, ho', h3, h4⟩ := h'
    exact pMeet _ _ ho ho' _ h1 h2 h3 h4
  empty _ h := by
    obtain ⟨A1, n1, c1, A2, n2, c2, rfl, ho, h1, h2⟩ := h
    exact pEmpty11 _ ho _ h1 h2
  within _ h h' := by
    obtain ⟨A1, n1, c1, A2, n2, c2, rfl, ho, h1, h2⟩ := h
    obtain ⟨A3, n3, c3, A4, n4, c4, rfl, ho', h3, h4⟩ := h'
    exact pWithin _ _ ho ho' _ h1 h2 h3 h4
end Go.Proofs.YtjdmhbfddklhnaaDoor
