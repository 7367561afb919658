/-
  The walk of the law OrderMeets over contracts of the program's package order. Conditions: those contracts.
-/
import Derived.Test.YtjdmhbfddklhnaaDoorOrdAwake
import Derived.Test.YtjdmhbfddklhnaaDoorAuto
set_option linter.unusedVariables false
set_option linter.unusedSimpArgs false
set_option maxRecDepth 100000
namespace Go.Proofs.YtjdmhbfddklhnaaDoor
open Go Go.Proofs Go.RowKit _root_.Ord11 Go.Proofs.YtjdmhbfddklhnaaDoor.Ord11
open Sch (wp_R gr_val gr_is gr_fresh gr_nil gr_on gr_onV gr_offV op_callR Rk)

set_option maxHeartbeats 16000000 in
theorem omeets_walk {Q : World → Prop} (H : OrderOk Q) (r s : Rg) (hor : r.o < 256) (hos : s.o < 256) {A1 A2 A3 A4 A5 : Option Addr} {n1 c1 n2 c2 n3 c3 n4 c4 n5 c5 : Nat} {b : List UInt8} (w : World) (hQ : Q w) (r1 : Reads w w.heap.size 1 A1 n1 (Lib.byteCells r.lo.at_)) (k1 : n1 ≤ c1) (r2 : Reads w w.heap.size 1 A2 n2 (Lib.byteCells r.hi.at_)) (k2 : n2 ≤ c2) (r3 : Reads w w.heap.size 1 A3 n3 (Lib.byteCells s.lo.at_)) (k3 : n3 ≤ c3) (r4 : Reads w w.heap.size 1 A4 n4 (Lib.byteCells s.hi.at_)) (k4 : n4 ≤ c4) (r5 : Reads w w.heap.size 1 A5 n5 (Lib.byteCells b)) (k5 : n5 ≤ c5) :
    Calls Tryd.prog 5 #[.agg (rgC r A1 n1 c1 A2 n2 c2), .agg (rgC s A3 n3 c3 A4 n4 c4), .slice A5 n5 c5] w fun e w' => e = .returned (.bool true) ∧ Below w.heap.size w w' := by
  obtain ⟨oa, ⟨ia1, pa1, l1⟩, ⟨ia2, pa2, l2⟩⟩ := r
  obtain ⟨ob, ⟨ib1, pb1, l3⟩, ⟨ib2, pb2, l4⟩⟩ := s
  dsimp only at hor hos r1 r2 r3 r4
  obtain ⟨w0, hw0⟩ : ∃ w0, w0 = ((w.alloc (.cells #[.int .u8 oa, .bool ia1, .bool pa1, .slice A1 n1 c1, .bool ia2, .bool pa2, .slice A2 n2 c2] 31)).alloc (.cells #[.int .u8 ob, .bool ib1, .bool pb1, .slice A3 n3 c3, .bool ib2, .bool pb2, .slice A4 n4 c4] 31)) := ⟨_, rfl⟩
  have HB0 : Hid (Below w.heap.size w w0) := by
    show Below _ _ _
    rw [hw0]
    exact ((Below.refl w.heap.size w).alloc (Nat.le_refl _) _).alloc (by simp; try omega) _
  have B0 : Blk w0 w.heap.size 31 #[.int .u8 oa, .bool ia1, .bool pa1, .slice A1 n1 c1, .bool ia2, .bool pa2, .slice A2 n2 c2] := by
    rw [hw0]
    exact (Blk.new w 31 #[.int .u8 oa, .bool ia1, .bool pa1, .slice A1 n1 c1, .bool ia2, .bool pa2, .slice A2 n2 c2]).alloc (.cells #[.int .u8 ob, .bool ib1, .bool pb1, .slice A3 n3 c3, .bool ib2, .bool pb2, .slice A4 n4 c4] 31)
  have X0 : Hid (∀ W, Below w0.heap.size w0 W → ∀ k u, (#[.int .u8 oa, .bool ia1, .bool pa1, .slice A1 n1 c1, .bool ia2, .bool pa2, .slice A2 n2 c2] : Array Value)[k]? = some u → W.cell? ⟨w.heap.size, k, none⟩ = some u) := fun W hW k u hk => cell_below hW ((B0.cell k).trans hk) B0.lt
  have B1 : Blk w0 (w.heap.size + 1) 31 #[.int .u8 ob, .bool ib1, .bool pb1, .slice A3 n3 c3, .bool ib2, .bool pb2, .slice A4 n4 c4] := by
    rw [hw0]
    have h := Blk.new (w.alloc (.cells #[.int .u8 oa, .bool ia1, .bool pa1, .slice A1 n1 c1, .bool ia2, .bool pa2, .slice A2 n2 c2] 31)) 31 #[.int .u8 ob, .bool ib1, .bool pb1, .slice A3 n3 c3, .bool ib2, .bool pb2, .slice A4 n4 c4]
    simpa using h
  have X1 : Hid (∀ W, Below w0.heap.size w0 W → ∀ k u, (#[.int .u8 ob, .bool ib1, .bool pb1, .slice A3 n3 c3, .bool ib2, .bool pb2, .slice A4 n4 c4] : Array Value)[k]? = some u → W.cell? ⟨(w.heap.size + 1), k, none⟩ = some u) := fun W hW k u hk => cell_below hW ((B1.cell k).trans hk) B1.lt
  have HR : Below w0.heap.size w0 w0 := Below.refl _ _
  clear B0 B1
  have KA : Hid (∀ W, Below w0.heap.size w0 W → Calls Tryd.prog 8 #[] W fun e w' => e = .returned (.bool true) ∧ Below W.heap.size W w') := by
    intro W hW
    exact awake11_any H W (H.old hQ (next_below HB0.out hW))
  have KG : Hid (∀ W, Below w0.heap.size w0 W → Calls Tryd.prog 13 #[.agg #[.int .u8 oa, .bool ia1, .bool pa1, .slice A1 n1 c1, .bool ia2, .bool pa2, .slice A2 n2 c2]] W fun e w' => e = .returned (.bool (decide (200 < n1) || decide (200 < n2))) ∧ Below W.heap.size W w') := fun W hW => refGreat11 ⟨oa, ⟨ia1, pa1, l1⟩, ⟨ia2, pa2, l2⟩⟩ A1 A2 n1 c1 n2 c2 W
  have KH : Hid (∀ W, Below w0.heap.size w0 W → Calls Tryd.prog 13 #[.agg #[.int .u8 ob, .bool ib1, .bool pb1, .slice A3 n3 c3, .bool ib2, .bool pb2, .slice A4 n4 c4]] W fun e w' => e = .returned (.bool (decide (200 < n3) || decide (200 < n4))) ∧ Below W.heap.size W w') := fun W hW => refGreat11 ⟨ob, ⟨ib1, pb1, l3⟩, ⟨ib2, pb2, l4⟩⟩ A3 A4 n3 c3 n4 c4 W
  obtain ⟨gt, hgt⟩ : ∃ x, x = (decide (200 < n1) || decide (200 < n2)) := ⟨_, rfl⟩
  obtain ⟨gu, hgu⟩ : ∃ x, x = (decide (200 < n3) || decide (200 < n4)) := ⟨_, rfl⟩
  rw [← hgt] at KG
  rw [← hgu] at KH
  unfold rgC
  have HQ := Lib.hid hQ
  by_cases hbig : gt = true ∨ gu = true ∨ 200 < n5
  · have h3 : gt = false → gu = false → 200 < n5 := fun h h' => by
      rcases hbig with h2 | h2 | h2
      · rw [h2] at h; cases h
      · rw [h2] at h'; cases h'
      · exact h2
    clear hbig hgt hgu r1 r2 r3 r4 r5
    go_enter Tryd.func5, Tryd.ntmps5
    go_upto_region 1 with fail
    rw [← hw0]
    clear hw0
    have x0_0 := X0.out _ HR 0 _ rfl
    have x0_1 := X0.out _ HR 1 _ rfl
    have x0_2 := X0.out _ HR 2 _ rfl
    have x0_3 := X0.out _ HR 3 _ rfl
    have x0_4 := X0.out _ HR 4 _ rfl
    have x0_5 := X0.out _ HR 5 _ rfl
    have x0_6 := X0.out _ HR 6 _ rfl
    have x1_0 := X1.out _ HR 0 _ rfl
    have x1_1 := X1.out _ HR 1 _ rfl
    have x1_2 := X1.out _ HR 2 _ rfl
    have x1_3 := X1.out _ HR 3 _ rfl
    have x1_4 := X1.out _ HR 4 _ rfl
    have x1_5 := X1.out _ HR 5 _ rfl
    have x1_6 := X1.out _ HR 6 _ rfl

    cases gt with
    | true =>
      clear h3
      go_wp2_with first | (go_at_call 13; (first | (with_reducible refine (KG.out _ (by assumption)).mono ?_) | (with_reducible refine (KH.out _ (by assumption)).mono ?_)); rintro e w1 ⟨rfl, hb⟩; have hB := next_below (by assumption) hb; have x0_0 := X0.out _ hB 0 _ rfl; have x0_1 := X0.out _ hB 1 _ rfl; have x0_2 := X0.out _ hB 2 _ rfl; have x0_3 := X0.out _ hB 3 _ rfl; have x0_4 := X0.out _ hB 4 _ rfl; have x0_5 := X0.out _ hB 5 _ rfl; have x0_6 := X0.out _ hB 6 _ rfl; have x1_0 := X1.out _ hB 0 _ rfl; have x1_1 := X1.out _ hB 1 _ rfl; have x1_2 := X1.out _ hB 2 _ rfl; have x1_3 := X1.out _ hB 3 _ rfl; have x1_4 := X1.out _ hB 4 _ rfl; have x1_5 := X1.out _ hB 5 _ rfl; have x1_6 := X1.out _ hB 6 _ rfl; clear hb) | (go_at_call 8; (with_reducible refine (KA.out _ (by assumption)).mono ?_); rintro e w1 ⟨rfl, hb⟩; have hB := next_below (by assumption) hb; have x0_0 := X0.out _ hB 0 _ rfl; have x0_1 := X0.out _ hB 1 _ rfl; have x0_2 := X0.out _ hB 2 _ rfl; have x0_3 := X0.out _ hB 3 _ rfl; have x0_4 := X0.out _ hB 4 _ rfl; have x0_5 := X0.out _ hB 5 _ rfl; have x0_6 := X0.out _ hB 6 _ rfl; have x1_0 := X1.out _ hB 0 _ rfl; have x1_1 := X1.out _ hB 1 _ rfl; have x1_2 := X1.out _ hB 2 _ rfl; have x1_3 := X1.out _ hB 3 _ rfl; have x1_4 := X1.out _ hB 4 _ rfl; have x1_5 := X1.out _ hB 5 _ rfl; have x1_6 := X1.out _ hB 6 _ rfl; clear hb)
      go_ret
      exact ⟨rfl, next_below HB0.out (by assumption)⟩
    | false =>
      cases gu with
      | true =>
        clear h3
        go_wp2_with first | (go_at_call 13; (first | (with_reducible refine (KG.out _ (by assumption)).mono ?_) | (with_reducible refine (KH.out _ (by assumption)).mono ?_)); rintro e w1 ⟨rfl, hb⟩; have hB := next_below (by assumption) hb; have x0_0 := X0.out _ hB 0 _ rfl; have x0_1 := X0.out _ hB 1 _ rfl; have x0_2 := X0.out _ hB 2 _ rfl; have x0_3 := X0.out _ hB 3 _ rfl; have x0_4 := X0.out _ hB 4 _ rfl; have x0_5 := X0.out _ hB 5 _ rfl; have x0_6 := X0.out _ hB 6 _ rfl; have x1_0 := X1.out _ hB 0 _ rfl; have x1_1 := X1.out _ hB 1 _ rfl; have x1_2 := X1.out _ hB 2 _ rfl; have x1_3 := X1.out _ hB 3 _ rfl; have x1_4 := X1.out _ hB 4 _ rfl; have x1_5 := X1.out _ hB 5 _ rfl; have x1_6 := X1.out _ hB 6 _ rfl; clear hb) | (go_at_call 8; (with_reducible refine (KA.out _ (by assumption)).mono ?_); rintro e w1 ⟨rfl, hb⟩; have hB := next_below (by assumption) hb; have x0_0 := X0.out _ hB 0 _ rfl; have x0_1 := X0.out _ hB 1 _ rfl; have x0_2 := X0.out _ hB 2 _ rfl; have x0_3 := X0.out _ hB 3 _ rfl; have x0_4 := X0.out _ hB 4 _ rfl; have x0_5 := X0.out _ hB 5 _ rfl; have x0_6 := X0.out _ hB 6 _ rfl; have x1_0 := X1.out _ hB 0 _ rfl; have x1_1 := X1.out _ hB 1 _ rfl; have x1_2 := X1.out _ hB 2 _ rfl; have x1_3 := X1.out _ hB 3 _ rfl; have x1_4 := X1.out _ hB 4 _ rfl; have x1_5 := X1.out _ hB 5 _ rfl; have x1_6 := X1.out _ hB 6 _ rfl; clear hb)
        go_ret
        exact ⟨rfl, next_below HB0.out (by assumption)⟩
      | false =>
        have h3' := h3 rfl rfl
        clear h3
        go_wp2_with first | (go_at_call 13; (first | (with_reducible refine (KG.out _ (by assumption)).mono ?_) | (with_reducible refine (KH.out _ (by assumption)).mono ?_)); rintro e w1 ⟨rfl, hb⟩; have hB := next_below (by assumption) hb; have x0_0 := X0.out _ hB 0 _ rfl; have x0_1 := X0.out _ hB 1 _ rfl; have x0_2 := X0.out _ hB 2 _ rfl; have x0_3 := X0.out _ hB 3 _ rfl; have x0_4 := X0.out _ hB 4 _ rfl; have x0_5 := X0.out _ hB 5 _ rfl; have x0_6 := X0.out _ hB 6 _ rfl; have x1_0 := X1.out _ hB 0 _ rfl; have x1_1 := X1.out _ hB 1 _ rfl; have x1_2 := X1.out _ hB 2 _ rfl; have x1_3 := X1.out _ hB 3 _ rfl; have x1_4 := X1.out _ hB 4 _ rfl; have x1_5 := X1.out _ hB 5 _ rfl; have x1_6 := X1.out _ hB 6 _ rfl; clear hb) | (go_at_call 8; (with_reducible refine (KA.out _ (by assumption)).mono ?_); rintro e w1 ⟨rfl, hb⟩; have hB := next_below (by assumption) hb; have x0_0 := X0.out _ hB 0 _ rfl; have x0_1 := X0.out _ hB 1 _ rfl; have x0_2 := X0.out _ hB 2 _ rfl; have x0_3 := X0.out _ hB 3 _ rfl; have x0_4 := X0.out _ hB 4 _ rfl; have x0_5 := X0.out _ hB 5 _ rfl; have x0_6 := X0.out _ hB 6 _ rfl; have x1_0 := X1.out _ hB 0 _ rfl; have x1_1 := X1.out _ hB 1 _ rfl; have x1_2 := X1.out _ hB 2 _ rfl; have x1_3 := X1.out _ hB 3 _ rfl; have x1_4 := X1.out _ hB 4 _ rfl; have x1_5 := X1.out _ hB 5 _ rfl; have x1_6 := X1.out _ hB 6 _ rfl; clear hb)
        go_ret
        exact ⟨rfl, next_below HB0.out (by assumption)⟩
  have hg0 : gt = false := by
    cases gt with
    | true => exact absurd (.inl rfl) hbig
    | false => rfl
  have hg1 : gu = false := by
    cases gu with
    | true => exact absurd (.inr (.inl rfl)) hbig
    | false => rfl
  have h3 : ¬ 200 < n5 := fun h => hbig (.inr (.inr h))
  rw [hg0] at hgt
  rw [hg1] at hgu
  have hn : (n1 ≤ 200 ∧ n2 ≤ 200) ∧ n3 ≤ 200 ∧ n4 ≤ 200 := by
    have h := hgt.symm
    have h' := hgu.symm
    simp at h h'
    exact ⟨h, h'⟩
  have s5 : SlAt w w.heap.size A5 n5 c5 b := ⟨r5, by omega, k5⟩
  have hr : RgIs w ⟨oa, ⟨ia1, pa1, l1⟩, ⟨ia2, pa2, l2⟩⟩ #[.int .u8 oa, .bool ia1, .bool pa1, .slice A1 n1 c1, .bool ia2, .bool pa2, .slice A2 n2 c2] := ⟨_, _, _, _, _, _, rfl, hor, ⟨r1, by omega, k1⟩, ⟨r2, by omega, k2⟩⟩
  have hs : RgIs w ⟨ob, ⟨ib1, pb1, l3⟩, ⟨ib2, pb2, l4⟩⟩ #[.int .u8 ob, .bool ib1, .bool pb1, .slice A3 n3 c3, .bool ib2, .bool pb2, .slice A4 n4 c4] := ⟨_, _, _, _, _, _, rfl, hos, ⟨r3, by omega, k3⟩, ⟨r4, by omega, k4⟩⟩
  subst hg0 hg1
  have HS5 := Lib.hid s5
  have HRR := Lib.hid hr
  have HSS := Lib.hid hs
  clear hgt hgu hbig hn r1 r2 r3 r4 r5 s5 hr hs hQ
  have K3 : Hid (∀ W, Below w0.heap.size w0 W → Calls Tryd.prog 16 #[.agg #[.int .u8 oa, .bool ia1, .bool pa1, .slice A1 n1 c1, .bool ia2, .bool pa2, .slice A2 n2 c2], .slice A5 n5 c5] W fun e w' => e = .returned (.bool (inR ordC ⟨oa, ⟨ia1, pa1, l1⟩, ⟨ia2, pa2, l2⟩⟩ b)) ∧ Below W.heap.size W w') := by
    intro W hW
    have hW' := next_below HB0.out hW
    exact H.in_ (H.old HQ.out hW') (HRR.out.next hW') (HS5.out.next hW')
  have K4 : Hid (∀ W, Below w0.heap.size w0 W → Calls Tryd.prog 16 #[.agg #[.int .u8 ob, .bool ib1, .bool pb1, .slice A3 n3 c3, .bool ib2, .bool pb2, .slice A4 n4 c4], .slice A5 n5 c5] W fun e w' => e = .returned (.bool (inR ordC ⟨ob, ⟨ib1, pb1, l3⟩, ⟨ib2, pb2, l4⟩⟩ b)) ∧ Below W.heap.size W w') := by
    intro W hW
    have hW' := next_below HB0.out hW
    exact H.in_ (H.old HQ.out hW') (HSS.out.next hW') (HS5.out.next hW')
  go_enter Tryd.func5, Tryd.ntmps5
  go_upto_region 1 with fail
  rw [← hw0]
  clear hw0
  have x0_0 := X0.out _ HR 0 _ rfl
  have x0_1 := X0.out _ HR 1 _ rfl
  have x0_2 := X0.out _ HR 2 _ rfl
  have x0_3 := X0.out _ HR 3 _ rfl
  have x0_4 := X0.out _ HR 4 _ rfl
  have x0_5 := X0.out _ HR 5 _ rfl
  have x0_6 := X0.out _ HR 6 _ rfl
  have x1_0 := X1.out _ HR 0 _ rfl
  have x1_1 := X1.out _ HR 1 _ rfl
  have x1_2 := X1.out _ HR 2 _ rfl
  have x1_3 := X1.out _ HR 3 _ rfl
  have x1_4 := X1.out _ HR 4 _ rfl
  have x1_5 := X1.out _ HR 5 _ rfl
  have x1_6 := X1.out _ HR 6 _ rfl
  go_upto_region 3 with (go_at_call 13; (first | (with_reducible refine (KG.out _ (by assumption)).mono ?_) | (with_reducible refine (KH.out _ (by assumption)).mono ?_)); rintro e w1 ⟨rfl, hb⟩; have hB := next_below (by assumption) hb; have x0_0 := X0.out _ hB 0 _ rfl; have x0_1 := X0.out _ hB 1 _ rfl; have x0_2 := X0.out _ hB 2 _ rfl; have x0_3 := X0.out _ hB 3 _ rfl; have x0_4 := X0.out _ hB 4 _ rfl; have x0_5 := X0.out _ hB 5 _ rfl; have x0_6 := X0.out _ hB 6 _ rfl; have x1_0 := X1.out _ hB 0 _ rfl; have x1_1 := X1.out _ hB 1 _ rfl; have x1_2 := X1.out _ hB 2 _ rfl; have x1_3 := X1.out _ hB 3 _ rfl; have x1_4 := X1.out _ hB 4 _ rfl; have x1_5 := X1.out _ hB 5 _ rfl; have x1_6 := X1.out _ hB 6 _ rfl; clear hb)
  clear KG KH
  go_wp2_with fail
  refine (H.meet (H.old HQ.out (next_below HB0.out hB)) (HRR.out.next (next_below HB0.out hB)) (HSS.out.next (next_below HB0.out hB))).mono ?_
  rintro e v1 ⟨x, rfl, hin, hb⟩
  obtain ⟨Dx1, jx1, ex1, Dx2, jx2, ex2, rfl, hoz, hq1, hq2⟩ := hin
  obtain ⟨mx, hmx⟩ : ∃ m, m = (meetR ordC ⟨oa, ⟨ia1, pa1, l1⟩, ⟨ia2, pa2, l2⟩⟩ ⟨ob, ⟨ib1, pb1, l3⟩, ⟨ib2, pb2, l4⟩⟩).1 := ⟨_, rfl⟩
  rw [← hmx] at hq1 hq2 hoz ⊢
  obtain ⟨ox, ⟨ix1, px1, lx1⟩, ⟨ix2, px2, lx2⟩⟩ := mx
  have hB' := next_below hB hb
  clear hb x0_0 x0_1 x0_2 x0_3 x0_4 x0_5 x0_6 x1_0 x1_1 x1_2 x1_3 x1_4 x1_5 x1_6 hB
  unfold rgC
  dsimp only at hoz hq1 hq2 ⊢
  go_upto_region 4 with (refine wpList_store_row rfl 31 (.tmp 7) (.tmp 27) rfl v1.heap.size _ rfl rfl 31 #[.int .u8 0, .bool false, .bool false, .slice none 0 0, .bool false, .bool false, .slice none 0 0] (Blk.new _ _ _) infoRg rfl (by simp [Value.oneCell']) ?_)
  obtain ⟨wx, hwx⟩ : ∃ w9, w9 = (v1.alloc (.cells #[.int .u8 0, .bool false, .bool false, .slice none 0 0, .bool false, .bool false, .slice none 0 0] 31)).setRow v1.heap.size #[.int .u8 ox, .bool ix1, .bool px1, .slice Dx1 jx1 ex1, .bool ix2, .bool px2, .slice Dx2 jx2 ex2] := ⟨_, rfl⟩
  have hbn : Below v1.heap.size v1 wx := by rw [hwx]; exact below_row ((Below.refl _ _).alloc (Nat.le_refl _) _) (Nat.le_refl _) _
  have hbx : Blk wx v1.heap.size 31 #[.int .u8 ox, .bool ix1, .bool px1, .slice Dx1 jx1 ex1, .bool ix2, .bool px2, .slice Dx2 jx2 ex2] := by rw [hwx]; exact (Blk.new _ _ _).row _
  rw [← hwx]
  have hB9 := next_below hB' hbn
  have HB9 := Lib.hid (next_below HB0.out hB9)
  have HMx : Hid (RgIs wx ⟨ox, ⟨ix1, px1, lx1⟩, ⟨ix2, px2, lx2⟩⟩ #[.int .u8 ox, .bool ix1, .bool px1, .slice Dx1 jx1 ex1, .bool ix2, .bool px2, .slice Dx2 jx2 ex2]) := ⟨_, _, _, _, _, _, rfl, hoz, hq1.next hbn, hq2.next hbn⟩
  have X2 : Hid (∀ W, Below wx.heap.size wx W → ∀ k u, (#[.int .u8 ox, .bool ix1, .bool px1, .slice Dx1 jx1 ex1, .bool ix2, .bool px2, .slice Dx2 jx2 ex2] : Array Value)[k]? = some u → W.cell? ⟨v1.heap.size, k, none⟩ = some u) := fun W hW k u hk => cell_below hW ((hbx.cell k).trans hk) hbx.lt
  have HEx := Lib.hid hmx
  generalize v1.heap.size = gx at *
  replace X0 := Lib.hid (fun W (hW : Below wx.heap.size wx W) => X0.out W (next_below hB9 hW))
  replace X1 := Lib.hid (fun W (hW : Below wx.heap.size wx W) => X1.out W (next_below hB9 hW))
  replace KA := Lib.hid (fun W (hW : Below wx.heap.size wx W) => KA.out W (next_below hB9 hW))
  replace K3 := Lib.hid (fun W (hW : Below wx.heap.size wx W) => K3.out W (next_below hB9 hW))
  replace K4 := Lib.hid (fun W (hW : Below wx.heap.size wx W) => K4.out W (next_below hB9 hW))
  replace HB0 := HB9
  clear hB9 HB9 hB' hbn hbx hoz hq1 hq2 hwx hmx
  have hB : Below wx.heap.size wx wx := Below.refl _ _
  have x0_0 := X0.out _ hB 0 _ rfl
  have x0_1 := X0.out _ hB 1 _ rfl
  have x0_2 := X0.out _ hB 2 _ rfl
  have x0_3 := X0.out _ hB 3 _ rfl
  have x0_4 := X0.out _ hB 4 _ rfl
  have x0_5 := X0.out _ hB 5 _ rfl
  have x0_6 := X0.out _ hB 6 _ rfl
  have x1_0 := X1.out _ hB 0 _ rfl
  have x1_1 := X1.out _ hB 1 _ rfl
  have x1_2 := X1.out _ hB 2 _ rfl
  have x1_3 := X1.out _ hB 3 _ rfl
  have x1_4 := X1.out _ hB 4 _ rfl
  have x1_5 := X1.out _ hB 5 _ rfl
  have x1_6 := X1.out _ hB 6 _ rfl
  have x2_0 := X2.out _ hB 0 _ rfl
  have x2_1 := X2.out _ hB 1 _ rfl
  have x2_2 := X2.out _ hB 2 _ rfl
  have x2_3 := X2.out _ hB 3 _ rfl
  have x2_4 := X2.out _ hB 4 _ rfl
  have x2_5 := X2.out _ hB 5 _ rfl
  have x2_6 := X2.out _ hB 6 _ rfl
  go_wp2_with fail
  refine (rMeet (HRR.out.next (next_below HB0.out hB)) (HSS.out.next (next_below HB0.out hB))).mono ?_
  rintro e v1 ⟨x, rfl, hin, hb⟩
  obtain ⟨Dy1, jy1, ey1, Dy2, jy2, ey2, rfl, hoz, hq1, hq2⟩ := hin
  obtain ⟨my, hmy⟩ : ∃ m, m = (meetR ordC ⟨oa, ⟨ia1, pa1, l1⟩, ⟨ia2, pa2, l2⟩⟩ ⟨ob, ⟨ib1, pb1, l3⟩, ⟨ib2, pb2, l4⟩⟩).1 := ⟨_, rfl⟩
  rw [← hmy] at hq1 hq2 hoz ⊢
  obtain ⟨oy, ⟨iy1, py1, ly1⟩, ⟨iy2, py2, ly2⟩⟩ := my
  have hB' := next_below hB hb
  clear hb x0_0 x0_1 x0_2 x0_3 x0_4 x0_5 x0_6 x1_0 x1_1 x1_2 x1_3 x1_4 x1_5 x1_6 x2_0 x2_1 x2_2 x2_3 x2_4 x2_5 x2_6 hB
  unfold rgC
  dsimp only at hoz hq1 hq2 ⊢
  go_upto_region 5 with (refine wpList_store_row rfl 31 (.tmp 9) (.tmp 33) rfl v1.heap.size _ rfl rfl 31 #[.int .u8 0, .bool false, .bool false, .slice none 0 0, .bool false, .bool false, .slice none 0 0] (Blk.new _ _ _) infoRg rfl (by simp [Value.oneCell']) ?_)
  obtain ⟨wy, hwy⟩ : ∃ w9, w9 = (v1.alloc (.cells #[.int .u8 0, .bool false, .bool false, .slice none 0 0, .bool false, .bool false, .slice none 0 0] 31)).setRow v1.heap.size #[.int .u8 oy, .bool iy1, .bool py1, .slice Dy1 jy1 ey1, .bool iy2, .bool py2, .slice Dy2 jy2 ey2] := ⟨_, rfl⟩
  have hbn : Below v1.heap.size v1 wy := by rw [hwy]; exact below_row ((Below.refl _ _).alloc (Nat.le_refl _) _) (Nat.le_refl _) _
  have hbx : Blk wy v1.heap.size 31 #[.int .u8 oy, .bool iy1, .bool py1, .slice Dy1 jy1 ey1, .bool iy2, .bool py2, .slice Dy2 jy2 ey2] := by rw [hwy]; exact (Blk.new _ _ _).row _
  rw [← hwy]
  have hB9 := next_below hB' hbn
  have HB9 := Lib.hid (next_below HB0.out hB9)
  have HMy : Hid (RgIs wy ⟨oy, ⟨iy1, py1, ly1⟩, ⟨iy2, py2, ly2⟩⟩ #[.int .u8 oy, .bool iy1, .bool py1, .slice Dy1 jy1 ey1, .bool iy2, .bool py2, .slice Dy2 jy2 ey2]) := ⟨_, _, _, _, _, _, rfl, hoz, hq1.next hbn, hq2.next hbn⟩
  have X3 : Hid (∀ W, Below wy.heap.size wy W → ∀ k u, (#[.int .u8 oy, .bool iy1, .bool py1, .slice Dy1 jy1 ey1, .bool iy2, .bool py2, .slice Dy2 jy2 ey2] : Array Value)[k]? = some u → W.cell? ⟨v1.heap.size, k, none⟩ = some u) := fun W hW k u hk => cell_below hW ((hbx.cell k).trans hk) hbx.lt
  have HEy := Lib.hid hmy
  generalize v1.heap.size = gy at *
  replace X0 := Lib.hid (fun W (hW : Below wy.heap.size wy W) => X0.out W (next_below hB9 hW))
  replace X1 := Lib.hid (fun W (hW : Below wy.heap.size wy W) => X1.out W (next_below hB9 hW))
  replace X2 := Lib.hid (fun W (hW : Below wy.heap.size wy W) => X2.out W (next_below hB9 hW))
  replace KA := Lib.hid (fun W (hW : Below wy.heap.size wy W) => KA.out W (next_below hB9 hW))
  replace K3 := Lib.hid (fun W (hW : Below wy.heap.size wy W) => K3.out W (next_below hB9 hW))
  replace K4 := Lib.hid (fun W (hW : Below wy.heap.size wy W) => K4.out W (next_below hB9 hW))
  replace HMx := Lib.hid (HMx.out.next hB9)
  replace HB0 := HB9
  clear hB9 HB9 hB' hbn hbx hoz hq1 hq2 hwy hmy
  have hB : Below wy.heap.size wy wy := Below.refl _ _
  have x0_0 := X0.out _ hB 0 _ rfl
  have x0_1 := X0.out _ hB 1 _ rfl
  have x0_2 := X0.out _ hB 2 _ rfl
  have x0_3 := X0.out _ hB 3 _ rfl
  have x0_4 := X0.out _ hB 4 _ rfl
  have x0_5 := X0.out _ hB 5 _ rfl
  have x0_6 := X0.out _ hB 6 _ rfl
  have x1_0 := X1.out _ hB 0 _ rfl
  have x1_1 := X1.out _ hB 1 _ rfl
  have x1_2 := X1.out _ hB 2 _ rfl
  have x1_3 := X1.out _ hB 3 _ rfl
  have x1_4 := X1.out _ hB 4 _ rfl
  have x1_5 := X1.out _ hB 5 _ rfl
  have x1_6 := X1.out _ hB 6 _ rfl
  have x2_0 := X2.out _ hB 0 _ rfl
  have x2_1 := X2.out _ hB 1 _ rfl
  have x2_2 := X2.out _ hB 2 _ rfl
  have x2_3 := X2.out _ hB 3 _ rfl
  have x2_4 := X2.out _ hB 4 _ rfl
  have x2_5 := X2.out _ hB 5 _ rfl
  have x2_6 := X2.out _ hB 6 _ rfl
  have x3_0 := X3.out _ hB 0 _ rfl
  have x3_1 := X3.out _ hB 1 _ rfl
  have x3_2 := X3.out _ hB 2 _ rfl
  have x3_3 := X3.out _ hB 3 _ rfl
  have x3_4 := X3.out _ hB 4 _ rfl
  have x3_5 := X3.out _ hB 5 _ rfl
  have x3_6 := X3.out _ hB 6 _ rfl
  have hxy : (⟨ox, ⟨ix1, px1, lx1⟩, ⟨ix2, px2, lx2⟩⟩ : Rg) = ⟨oy, ⟨iy1, py1, ly1⟩, ⟨iy2, py2, ly2⟩⟩ := HEx.out.trans HEy.out.symm
  injection hxy with a1 a2 a3
  injection a2 with a4 a5 a6
  injection a3 with a7 a8 a9
  subst a1 a4 a5 a6 a7 a8 a9
  generalize hok : (meetR ordC ⟨oa, ⟨ia1, pa1, l1⟩, ⟨ia2, pa2, l2⟩⟩ ⟨ob, ⟨ib1, pb1, l3⟩, ⟨ib2, pb2, l4⟩⟩).2 = ok at *
  obtain ⟨ir, hir⟩ : ∃ i, i = inR ordC ⟨oa, ⟨ia1, pa1, l1⟩, ⟨ia2, pa2, l2⟩⟩ b := ⟨_, rfl⟩
  obtain ⟨is, his⟩ : ∃ i, i = inR ordC ⟨ob, ⟨ib1, pb1, l3⟩, ⟨ib2, pb2, l4⟩⟩ b := ⟨_, rfl⟩
  obtain ⟨ix, hix⟩ : ∃ i, i = inR ordC ⟨ox, ⟨ix1, px1, lx1⟩, ⟨ix2, px2, lx2⟩⟩ b := ⟨_, rfl⟩
  have hin : ok = true → ix = (ir && is) := by
    intro h
    rw [h] at hok
    have e := in_meet ordC_lawful b hok
    rw [← HEx.out] at e
    rw [hix, hir, his]; exact e
  have K5 : Hid (∀ W, Below wy.heap.size wy W → Calls Tryd.prog 22 #[.agg #[.int .u8 ox, .bool ix1, .bool px1, .slice Dx1 jx1 ex1, .bool ix2, .bool px2, .slice Dx2 jx2 ex2], .agg #[.int .u8 ox, .bool ix1, .bool px1, .slice Dy1 jy1 ey1, .bool ix2, .bool px2, .slice Dy2 jy2 ey2]] W fun e w' => e = .returned (.bool true) ∧ Below W.heap.size W w') := by
    intro W hW
    have hW' := next_below HB0.out hW
    have h := rSame (HMx.out.next hW) (HMy.out.next hW)
    rw [show sameR ⟨ox, ⟨ix1, px1, lx1⟩, ⟨ix2, px2, lx2⟩⟩ ⟨ox, ⟨ix1, px1, lx1⟩, ⟨ix2, px2, lx2⟩⟩ = true from sameR_refl _] at h
    exact h
  have K6 : Hid (∀ W, Below wy.heap.size wy W → Calls Tryd.prog 16 #[.agg #[.int .u8 ox, .bool ix1, .bool px1, .slice Dx1 jx1 ex1, .bool ix2, .bool px2, .slice Dx2 jx2 ex2], .slice A5 n5 c5] W fun e w' => e = .returned (.bool ix) ∧ Below W.heap.size W w') := by
    intro W hW
    have hW' := next_below HB0.out hW
    rw [hix]; exact H.in_ (H.old HQ.out hW') (HMx.out.next hW) (HS5.out.next hW')
  rw [← hir] at K3
  rw [← his] at K4
  clear hix hir his hok HEx HEy
  cases ok with
  | false =>
    clear hin
    go_upto_region 7 with (go_at_call 22; (with_reducible refine (K5.out _ (by assumption)).mono ?_); rintro e w1 ⟨rfl, hb⟩; have hB := next_below (by assumption) hb; have x0_0 := X0.out _ hB 0 _ rfl; have x0_1 := X0.out _ hB 1 _ rfl; have x0_2 := X0.out _ hB 2 _ rfl; have x0_3 := X0.out _ hB 3 _ rfl; have x0_4 := X0.out _ hB 4 _ rfl; have x0_5 := X0.out _ hB 5 _ rfl; have x0_6 := X0.out _ hB 6 _ rfl; have x1_0 := X1.out _ hB 0 _ rfl; have x1_1 := X1.out _ hB 1 _ rfl; have x1_2 := X1.out _ hB 2 _ rfl; have x1_3 := X1.out _ hB 3 _ rfl; have x1_4 := X1.out _ hB 4 _ rfl; have x1_5 := X1.out _ hB 5 _ rfl; have x1_6 := X1.out _ hB 6 _ rfl; have x2_0 := X2.out _ hB 0 _ rfl; have x2_1 := X2.out _ hB 1 _ rfl; have x2_2 := X2.out _ hB 2 _ rfl; have x2_3 := X2.out _ hB 3 _ rfl; have x2_4 := X2.out _ hB 4 _ rfl; have x2_5 := X2.out _ hB 5 _ rfl; have x2_6 := X2.out _ hB 6 _ rfl; have x3_0 := X3.out _ hB 0 _ rfl; have x3_1 := X3.out _ hB 1 _ rfl; have x3_2 := X3.out _ hB 2 _ rfl; have x3_3 := X3.out _ hB 3 _ rfl; have x3_4 := X3.out _ hB 4 _ rfl; have x3_5 := X3.out _ hB 5 _ rfl; have x3_6 := X3.out _ hB 6 _ rfl; clear hb)
    refine wp_R [44, 45, 46, 47, 48, 49, 50, 51, 52, 53, 54, 55, 56, 57, 58, 59, 60, 61, 62, 6] [Rk.val (.bool false), Rk.val (.bool true), Rk.val (.bool true), Rk.val undef, Rk.val undef, Rk.val undef, Rk.val undef, Rk.val undef, Rk.val undef, Rk.val undef, Rk.val undef, Rk.val undef, Rk.val undef, Rk.val undef, Rk.val undef, Rk.val (.bool true), Rk.val (.bool true), Rk.val (.bool true), Rk.val (.bool true), Rk.val (.bool true)] rfl (by kernel_rfl) (by kernel_rfl) (by kernel_rfl) (by kernel_rfl) ?hg1 _ (by rfl) ?hf1
    case hg1 =>
      refine gr_val rfl (by kernel_rfl) (fun a V H K Q hK => op_quiet (quiet_move (.tmp 8) (H.old 8 (by kernel_rfl) (by kernel_rfl)) (.inl rfl)) hK) ?_
      refine gr_val rfl (by kernel_rfl) (fun a V H K Q hK => op_quiet (quiet_not 4 (.tmp 44) (H.rel 0 44 (by kernel_rfl) (by kernel_rfl) rfl) (by kernel_rfl)) hK) ?_
      refine gr_val rfl (by kernel_rfl) (fun a V H K Q hK => op_quiet (quiet_move (.tmp 45) (H.rel 1 45 (by kernel_rfl) (by kernel_rfl) rfl) (.inl rfl)) hK) ?_
      refine gr_offV (j := 2) (d := 46) (want := false) (u := .bool true) rfl (by kernel_rfl) (by kernel_rfl) (fun a V H => (H.rel 2 46 (by kernel_rfl) (by kernel_rfl) rfl)) (by kernel_rfl) ?_
      refine gr_offV (j := 2) (d := 46) (want := false) (u := .bool true) rfl (by kernel_rfl) (by kernel_rfl) (fun a V H => (H.rel 2 46 (by kernel_rfl) (by kernel_rfl) rfl)) (by kernel_rfl) ?_
      refine gr_offV (j := 2) (d := 46) (want := false) (u := .bool true) rfl (by kernel_rfl) (by kernel_rfl) (fun a V H => (H.rel 2 46 (by kernel_rfl) (by kernel_rfl) rfl)) (by kernel_rfl) ?_
      refine gr_offV (j := 2) (d := 46) (want := false) (u := .bool true) rfl (by kernel_rfl) (by kernel_rfl) (fun a V H => (H.rel 2 46 (by kernel_rfl) (by kernel_rfl) rfl)) (by kernel_rfl) ?_
      refine gr_offV (j := 2) (d := 46) (want := false) (u := .bool true) rfl (by kernel_rfl) (by kernel_rfl) (fun a V H => (H.rel 2 46 (by kernel_rfl) (by kernel_rfl) rfl)) (by kernel_rfl) ?_
      refine gr_offV (j := 2) (d := 46) (want := false) (u := .bool true) rfl (by kernel_rfl) (by kernel_rfl) (fun a V H => (H.rel 2 46 (by kernel_rfl) (by kernel_rfl) rfl)) (by kernel_rfl) ?_
      refine gr_offV (j := 2) (d := 46) (want := false) (u := .bool true) rfl (by kernel_rfl) (by kernel_rfl) (fun a V H => (H.rel 2 46 (by kernel_rfl) (by kernel_rfl) rfl)) (by kernel_rfl) ?_
      refine gr_offV (j := 9) (d := 53) (want := true) (u := undef) rfl (by kernel_rfl) (by kernel_rfl) (fun a V H => (H.rel 9 53 (by kernel_rfl) (by kernel_rfl) rfl)) (by kernel_rfl) ?_
      refine gr_offV (j := 9) (d := 53) (want := true) (u := undef) rfl (by kernel_rfl) (by kernel_rfl) (fun a V H => (H.rel 9 53 (by kernel_rfl) (by kernel_rfl) rfl)) (by kernel_rfl) ?_
      refine gr_offV (j := 9) (d := 53) (want := true) (u := undef) rfl (by kernel_rfl) (by kernel_rfl) (fun a V H => (H.rel 9 53 (by kernel_rfl) (by kernel_rfl) rfl)) (by kernel_rfl) ?_
      refine gr_offV (j := 2) (d := 46) (want := false) (u := .bool true) rfl (by kernel_rfl) (by kernel_rfl) (fun a V H => (H.rel 2 46 (by kernel_rfl) (by kernel_rfl) rfl)) (by kernel_rfl) ?_
      refine gr_offV (j := 2) (d := 46) (want := false) (u := .bool true) rfl (by kernel_rfl) (by kernel_rfl) (fun a V H => (H.rel 2 46 (by kernel_rfl) (by kernel_rfl) rfl)) (by kernel_rfl) ?_
      refine gr_val rfl (by kernel_rfl) (fun a V H K Q hK => op_quiet (quiet_pickT (.tmp 46) (.const (.bool true)) (.tmp 58) (H.rel 2 46 (by kernel_rfl) (by kernel_rfl) rfl) (show a.eval (.const (.bool true)) = .bool true from rfl) (by kernel_rfl)) hK) ?_
      refine gr_val rfl (by kernel_rfl) (fun a V H K Q hK => op_quiet (quiet_move (.tmp 59) (H.rel 15 59 (by kernel_rfl) (by kernel_rfl) rfl) (.inl rfl)) hK) ?_
      refine gr_onV (j := 16) (d := 60) (want := true) (u := .bool true) rfl (by kernel_rfl) (by kernel_rfl) (fun a V H => (H.rel 16 60 (by kernel_rfl) (by kernel_rfl) rfl)) (by kernel_rfl) (fun a V H K Q hK => op_callK _ #[] (by kernel_rfl) (by kernel_rfl) (by kernel_rfl) (map0 ) (KA.out _ (next_below hB H.frame)) (by kernel_rfl) hK) ?_
      refine gr_val rfl (by kernel_rfl) (fun a V H K Q hK => op_quiet (quiet_pickT (.tmp 60) (.tmp 61) (.const (.bool false)) (H.rel 16 60 (by kernel_rfl) (by kernel_rfl) rfl) (H.rel 17 61 (by kernel_rfl) (by kernel_rfl) rfl) (by kernel_rfl)) hK) ?_
      refine gr_val rfl (by kernel_rfl) (fun a V H K Q hK => op_quiet (quiet_move (.tmp 62) (H.rel 18 62 (by kernel_rfl) (by kernel_rfl) rfl) (.inr rfl)) hK) ?_
      exact gr_nil
    case hf1 =>
    intro x V hF
    have e0 : x 0 = .bool false := hF.rel 0 _ rfl
    have e1 : x 1 = .bool true := hF.rel 1 _ rfl
    have e2 : x 2 = .bool true := hF.rel 2 _ rfl
    have e3 : x 3 = undef := hF.rel 3 _ rfl
    have e4 : x 4 = undef := hF.rel 4 _ rfl
    have e5 : x 5 = undef := hF.rel 5 _ rfl
    have e6 : x 6 = undef := hF.rel 6 _ rfl
    have e7 : x 7 = undef := hF.rel 7 _ rfl
    have e8 : x 8 = undef := hF.rel 8 _ rfl
    have e9 : x 9 = undef := hF.rel 9 _ rfl
    have e10 : x 10 = undef := hF.rel 10 _ rfl
    have e11 : x 11 = undef := hF.rel 11 _ rfl
    have e12 : x 12 = undef := hF.rel 12 _ rfl
    have e13 : x 13 = undef := hF.rel 13 _ rfl
    have e14 : x 14 = undef := hF.rel 14 _ rfl
    have e15 : x 15 = .bool true := hF.rel 15 _ rfl
    have e16 : x 16 = .bool true := hF.rel 16 _ rfl
    have e17 : x 17 = .bool true := hF.rel 17 _ rfl
    have e18 : x 18 = .bool true := hF.rel 18 _ rfl
    have e19 : x 19 = .bool true := hF.rel 19 _ rfl
    have hbf := hF.frame
    clear hF
    simp only [Sch.finL, List.setIfInBounds_toArray, List.set_cons_zero, List.set_cons_succ, e0, e1, e2, e3, e4, e5, e6, e7, e8, e9, e10, e11, e12, e13, e14, e15, e16, e17, e18, e19]
    clear e0 e1 e2 e3 e4 e5 e6 e7 e8 e9 e10 e11 e12 e13 e14 e15 e16 e17 e18 e19
    refine tail_nil ?_
    go_wp2_with fail
    go_ret
    exact ⟨rfl, next_below HB0.out (next_below hB hbf)⟩
  | true =>
    obtain rfl := hin rfl
    clear hin
    go_upto_region 7 with (go_at_call 22; (with_reducible refine (K5.out _ (by assumption)).mono ?_); rintro e w1 ⟨rfl, hb⟩; have hB := next_below (by assumption) hb; have x0_0 := X0.out _ hB 0 _ rfl; have x0_1 := X0.out _ hB 1 _ rfl; have x0_2 := X0.out _ hB 2 _ rfl; have x0_3 := X0.out _ hB 3 _ rfl; have x0_4 := X0.out _ hB 4 _ rfl; have x0_5 := X0.out _ hB 5 _ rfl; have x0_6 := X0.out _ hB 6 _ rfl; have x1_0 := X1.out _ hB 0 _ rfl; have x1_1 := X1.out _ hB 1 _ rfl; have x1_2 := X1.out _ hB 2 _ rfl; have x1_3 := X1.out _ hB 3 _ rfl; have x1_4 := X1.out _ hB 4 _ rfl; have x1_5 := X1.out _ hB 5 _ rfl; have x1_6 := X1.out _ hB 6 _ rfl; have x2_0 := X2.out _ hB 0 _ rfl; have x2_1 := X2.out _ hB 1 _ rfl; have x2_2 := X2.out _ hB 2 _ rfl; have x2_3 := X2.out _ hB 3 _ rfl; have x2_4 := X2.out _ hB 4 _ rfl; have x2_5 := X2.out _ hB 5 _ rfl; have x2_6 := X2.out _ hB 6 _ rfl; have x3_0 := X3.out _ hB 0 _ rfl; have x3_1 := X3.out _ hB 1 _ rfl; have x3_2 := X3.out _ hB 2 _ rfl; have x3_3 := X3.out _ hB 3 _ rfl; have x3_4 := X3.out _ hB 4 _ rfl; have x3_5 := X3.out _ hB 5 _ rfl; have x3_6 := X3.out _ hB 6 _ rfl; clear hb)
    cases ir <;> cases is
    · refine wp_R [44, 45, 46, 47, 48, 49, 50, 51, 52, 53, 54, 55, 56, 57, 58, 59, 60, 61, 62, 6] [Rk.val (.bool true), Rk.val (.bool false), Rk.val (.bool false), Rk.val (.agg #[.int .u8 ox, .bool ix1, .bool px1, .slice Dx1 jx1 ex1, .bool ix2, .bool px2, .slice Dx2 jx2 ex2]), Rk.val (.slice A5 n5 c5), Rk.val (.bool false), Rk.val (.agg #[.int .u8 oa, .bool ia1, .bool pa1, .slice A1 n1 c1, .bool ia2, .bool pa2, .slice A2 n2 c2]), Rk.val (.slice A5 n5 c5), Rk.val (.bool false), Rk.val (.bool false), Rk.val undef, Rk.val undef, Rk.val undef, Rk.val (.bool false), Rk.val (.bool true), Rk.val (.bool true), Rk.val (.bool true), Rk.val (.bool true), Rk.val (.bool true), Rk.val (.bool true)] rfl (by kernel_rfl) (by kernel_rfl) (by kernel_rfl) (by kernel_rfl) ?hg1 _ (by rfl) ?hf1
      case hg1 =>
        refine gr_val rfl (by kernel_rfl) (fun a V H K Q hK => op_quiet (quiet_move (.tmp 8) (H.old 8 (by kernel_rfl) (by kernel_rfl)) (.inl rfl)) hK) ?_
        refine gr_val rfl (by kernel_rfl) (fun a V H K Q hK => op_quiet (quiet_not 4 (.tmp 44) (H.rel 0 44 (by kernel_rfl) (by kernel_rfl) rfl) (by kernel_rfl)) hK) ?_
        refine gr_val rfl (by kernel_rfl) (fun a V H K Q hK => op_quiet (quiet_move (.tmp 45) (H.rel 1 45 (by kernel_rfl) (by kernel_rfl) rfl) (.inl rfl)) hK) ?_
        refine gr_onV (j := 2) (d := 46) (want := false) (u := .bool false) rfl (by kernel_rfl) (by kernel_rfl) (fun a V H => (H.rel 2 46 (by kernel_rfl) (by kernel_rfl) rfl)) (by kernel_rfl) (fun a V H K Q hK => op_quiet (quiet_agg _ (.tmp 7) _ 0 (H.old 7 (by kernel_rfl) (by kernel_rfl)) #[.int .u8 ox, .bool ix1, .bool px1, .slice Dx1 jx1 ex1, .bool ix2, .bool px2, .slice Dx2 jx2 ex2] (fun j v hj => X2.out _ (next_below hB H.frame) _ v (part_at 0 ⟨_, rfl⟩ j v hj)) Tryd.underlying31 rfl (by kernel_rfl) (by kernel_rfl)) hK) ?_
        refine gr_onV (j := 2) (d := 46) (want := false) (u := .bool false) rfl (by kernel_rfl) (by kernel_rfl) (fun a V H => (H.rel 2 46 (by kernel_rfl) (by kernel_rfl) rfl)) (by kernel_rfl) (fun a V H K Q hK => op_quiet (quiet_move (.tmp 2) (H.old 2 (by kernel_rfl) (by kernel_rfl)) (.inl rfl)) hK) ?_
        refine gr_onV (j := 2) (d := 46) (want := false) (u := .bool false) rfl (by kernel_rfl) (by kernel_rfl) (fun a V H => (H.rel 2 46 (by kernel_rfl) (by kernel_rfl) rfl)) (by kernel_rfl) (fun a V H K Q hK => op_callK _ #[.agg #[.int .u8 ox, .bool ix1, .bool px1, .slice Dx1 jx1 ex1, .bool ix2, .bool px2, .slice Dx2 jx2 ex2], .slice A5 n5 c5] (by kernel_rfl) (by kernel_rfl) (by kernel_rfl) (map2 (H.rel 3 47 (by kernel_rfl) (by kernel_rfl) rfl) (H.rel 4 48 (by kernel_rfl) (by kernel_rfl) rfl)) (K6.out _ (next_below hB H.frame)) (by kernel_rfl) hK) ?_
        refine gr_onV (j := 2) (d := 46) (want := false) (u := .bool false) rfl (by kernel_rfl) (by kernel_rfl) (fun a V H => (H.rel 2 46 (by kernel_rfl) (by kernel_rfl) rfl)) (by kernel_rfl) (fun a V H K Q hK => op_quiet (quiet_agg _ (.tmp 3) _ 0 (H.old 3 (by kernel_rfl) (by kernel_rfl)) #[.int .u8 oa, .bool ia1, .bool pa1, .slice A1 n1 c1, .bool ia2, .bool pa2, .slice A2 n2 c2] (fun j v hj => X0.out _ (next_below hB H.frame) _ v (part_at 0 ⟨_, rfl⟩ j v hj)) Tryd.underlying31 rfl (by kernel_rfl) (by kernel_rfl)) hK) ?_
        refine gr_onV (j := 2) (d := 46) (want := false) (u := .bool false) rfl (by kernel_rfl) (by kernel_rfl) (fun a V H => (H.rel 2 46 (by kernel_rfl) (by kernel_rfl) rfl)) (by kernel_rfl) (fun a V H K Q hK => op_quiet (quiet_move (.tmp 2) (H.old 2 (by kernel_rfl) (by kernel_rfl)) (.inl rfl)) hK) ?_
        refine gr_onV (j := 2) (d := 46) (want := false) (u := .bool false) rfl (by kernel_rfl) (by kernel_rfl) (fun a V H => (H.rel 2 46 (by kernel_rfl) (by kernel_rfl) rfl)) (by kernel_rfl) (fun a V H K Q hK => op_callK _ #[.agg #[.int .u8 oa, .bool ia1, .bool pa1, .slice A1 n1 c1, .bool ia2, .bool pa2, .slice A2 n2 c2], .slice A5 n5 c5] (by kernel_rfl) (by kernel_rfl) (by kernel_rfl) (map2 (H.rel 6 50 (by kernel_rfl) (by kernel_rfl) rfl) (H.rel 7 51 (by kernel_rfl) (by kernel_rfl) rfl)) (K3.out _ (next_below hB H.frame)) (by kernel_rfl) hK) ?_
        refine gr_onV (j := 2) (d := 46) (want := false) (u := .bool false) rfl (by kernel_rfl) (by kernel_rfl) (fun a V H => (H.rel 2 46 (by kernel_rfl) (by kernel_rfl) rfl)) (by kernel_rfl) (fun a V H K Q hK => op_quiet (quiet_move (.tmp 52) (H.rel 8 52 (by kernel_rfl) (by kernel_rfl) rfl) (.inl rfl)) hK) ?_
        refine gr_offV (j := 9) (d := 53) (want := true) (u := .bool false) rfl (by kernel_rfl) (by kernel_rfl) (fun a V H => (H.rel 9 53 (by kernel_rfl) (by kernel_rfl) rfl)) (by kernel_rfl) ?_
        refine gr_offV (j := 9) (d := 53) (want := true) (u := .bool false) rfl (by kernel_rfl) (by kernel_rfl) (fun a V H => (H.rel 9 53 (by kernel_rfl) (by kernel_rfl) rfl)) (by kernel_rfl) ?_
        refine gr_offV (j := 9) (d := 53) (want := true) (u := .bool false) rfl (by kernel_rfl) (by kernel_rfl) (fun a V H => (H.rel 9 53 (by kernel_rfl) (by kernel_rfl) rfl)) (by kernel_rfl) ?_
        refine gr_onV (j := 2) (d := 46) (want := false) (u := .bool false) rfl (by kernel_rfl) (by kernel_rfl) (fun a V H => (H.rel 2 46 (by kernel_rfl) (by kernel_rfl) rfl)) (by kernel_rfl) (fun a V H K Q hK => op_quiet (quiet_pickF (.tmp 53) (.tmp 56) (.const (.bool false)) (H.rel 9 53 (by kernel_rfl) (by kernel_rfl) rfl) (show a.eval (.const (.bool false)) = .bool false from rfl) (by kernel_rfl)) hK) ?_
        refine gr_onV (j := 2) (d := 46) (want := false) (u := .bool false) rfl (by kernel_rfl) (by kernel_rfl) (fun a V H => (H.rel 2 46 (by kernel_rfl) (by kernel_rfl) rfl)) (by kernel_rfl) (fun a V H K Q hK => op_quiet (quiet_eqlB (.tmp 49) (.tmp 57) false false true 4 4 Tryd.underlying4 rfl (H.rel 5 49 (by kernel_rfl) (by kernel_rfl) rfl) (H.rel 13 57 (by kernel_rfl) (by kernel_rfl) rfl) (by kernel_rfl)) hK) ?_
        refine gr_val rfl (by kernel_rfl) (fun a V H K Q hK => op_quiet (quiet_pickF (.tmp 46) (.const (.bool true)) (.tmp 58) (H.rel 2 46 (by kernel_rfl) (by kernel_rfl) rfl) (H.rel 14 58 (by kernel_rfl) (by kernel_rfl) rfl) (by kernel_rfl)) hK) ?_
        refine gr_val rfl (by kernel_rfl) (fun a V H K Q hK => op_quiet (quiet_move (.tmp 59) (H.rel 15 59 (by kernel_rfl) (by kernel_rfl) rfl) (.inl rfl)) hK) ?_
        refine gr_onV (j := 16) (d := 60) (want := true) (u := .bool true) rfl (by kernel_rfl) (by kernel_rfl) (fun a V H => (H.rel 16 60 (by kernel_rfl) (by kernel_rfl) rfl)) (by kernel_rfl) (fun a V H K Q hK => op_callK _ #[] (by kernel_rfl) (by kernel_rfl) (by kernel_rfl) (map0 ) (KA.out _ (next_below hB H.frame)) (by kernel_rfl) hK) ?_
        refine gr_val rfl (by kernel_rfl) (fun a V H K Q hK => op_quiet (quiet_pickT (.tmp 60) (.tmp 61) (.const (.bool false)) (H.rel 16 60 (by kernel_rfl) (by kernel_rfl) rfl) (H.rel 17 61 (by kernel_rfl) (by kernel_rfl) rfl) (by kernel_rfl)) hK) ?_
        refine gr_val rfl (by kernel_rfl) (fun a V H K Q hK => op_quiet (quiet_move (.tmp 62) (H.rel 18 62 (by kernel_rfl) (by kernel_rfl) rfl) (.inr rfl)) hK) ?_
        exact gr_nil
      case hf1 =>
      intro x V hF
      have e0 : x 0 = .bool true := hF.rel 0 _ rfl
      have e1 : x 1 = .bool false := hF.rel 1 _ rfl
      have e2 : x 2 = .bool false := hF.rel 2 _ rfl
      have e3 : x 3 = .agg #[.int .u8 ox, .bool ix1, .bool px1, .slice Dx1 jx1 ex1, .bool ix2, .bool px2, .slice Dx2 jx2 ex2] := hF.rel 3 _ rfl
      have e4 : x 4 = .slice A5 n5 c5 := hF.rel 4 _ rfl
      have e5 : x 5 = .bool false := hF.rel 5 _ rfl
      have e6 : x 6 = .agg #[.int .u8 oa, .bool ia1, .bool pa1, .slice A1 n1 c1, .bool ia2, .bool pa2, .slice A2 n2 c2] := hF.rel 6 _ rfl
      have e7 : x 7 = .slice A5 n5 c5 := hF.rel 7 _ rfl
      have e8 : x 8 = .bool false := hF.rel 8 _ rfl
      have e9 : x 9 = .bool false := hF.rel 9 _ rfl
      have e10 : x 10 = undef := hF.rel 10 _ rfl
      have e11 : x 11 = undef := hF.rel 11 _ rfl
      have e12 : x 12 = undef := hF.rel 12 _ rfl
      have e13 : x 13 = .bool false := hF.rel 13 _ rfl
      have e14 : x 14 = .bool true := hF.rel 14 _ rfl
      have e15 : x 15 = .bool true := hF.rel 15 _ rfl
      have e16 : x 16 = .bool true := hF.rel 16 _ rfl
      have e17 : x 17 = .bool true := hF.rel 17 _ rfl
      have e18 : x 18 = .bool true := hF.rel 18 _ rfl
      have e19 : x 19 = .bool true := hF.rel 19 _ rfl
      have hbf := hF.frame
      clear hF
      simp only [Sch.finL, List.setIfInBounds_toArray, List.set_cons_zero, List.set_cons_succ, e0, e1, e2, e3, e4, e5, e6, e7, e8, e9, e10, e11, e12, e13, e14, e15, e16, e17, e18, e19]
      clear e0 e1 e2 e3 e4 e5 e6 e7 e8 e9 e10 e11 e12 e13 e14 e15 e16 e17 e18 e19
      refine tail_nil ?_
      go_wp2_with fail
      go_ret
      exact ⟨rfl, next_below HB0.out (next_below hB hbf)⟩
    · refine wp_R [44, 45, 46, 47, 48, 49, 50, 51, 52, 53, 54, 55, 56, 57, 58, 59, 60, 61, 62, 6] [Rk.val (.bool true), Rk.val (.bool false), Rk.val (.bool false), Rk.val (.agg #[.int .u8 ox, .bool ix1, .bool px1, .slice Dx1 jx1 ex1, .bool ix2, .bool px2, .slice Dx2 jx2 ex2]), Rk.val (.slice A5 n5 c5), Rk.val (.bool false), Rk.val (.agg #[.int .u8 oa, .bool ia1, .bool pa1, .slice A1 n1 c1, .bool ia2, .bool pa2, .slice A2 n2 c2]), Rk.val (.slice A5 n5 c5), Rk.val (.bool false), Rk.val (.bool false), Rk.val undef, Rk.val undef, Rk.val undef, Rk.val (.bool false), Rk.val (.bool true), Rk.val (.bool true), Rk.val (.bool true), Rk.val (.bool true), Rk.val (.bool true), Rk.val (.bool true)] rfl (by kernel_rfl) (by kernel_rfl) (by kernel_rfl) (by kernel_rfl) ?hg1 _ (by rfl) ?hf1
      case hg1 =>
        refine gr_val rfl (by kernel_rfl) (fun a V H K Q hK => op_quiet (quiet_move (.tmp 8) (H.old 8 (by kernel_rfl) (by kernel_rfl)) (.inl rfl)) hK) ?_
        refine gr_val rfl (by kernel_rfl) (fun a V H K Q hK => op_quiet (quiet_not 4 (.tmp 44) (H.rel 0 44 (by kernel_rfl) (by kernel_rfl) rfl) (by kernel_rfl)) hK) ?_
        refine gr_val rfl (by kernel_rfl) (fun a V H K Q hK => op_quiet (quiet_move (.tmp 45) (H.rel 1 45 (by kernel_rfl) (by kernel_rfl) rfl) (.inl rfl)) hK) ?_
        refine gr_onV (j := 2) (d := 46) (want := false) (u := .bool false) rfl (by kernel_rfl) (by kernel_rfl) (fun a V H => (H.rel 2 46 (by kernel_rfl) (by kernel_rfl) rfl)) (by kernel_rfl) (fun a V H K Q hK => op_quiet (quiet_agg _ (.tmp 7) _ 0 (H.old 7 (by kernel_rfl) (by kernel_rfl)) #[.int .u8 ox, .bool ix1, .bool px1, .slice Dx1 jx1 ex1, .bool ix2, .bool px2, .slice Dx2 jx2 ex2] (fun j v hj => X2.out _ (next_below hB H.frame) _ v (part_at 0 ⟨_, rfl⟩ j v hj)) Tryd.underlying31 rfl (by kernel_rfl) (by kernel_rfl)) hK) ?_
        refine gr_onV (j := 2) (d := 46) (want := false) (u := .bool false) rfl (by kernel_rfl) (by kernel_rfl) (fun a V H => (H.rel 2 46 (by kernel_rfl) (by kernel_rfl) rfl)) (by kernel_rfl) (fun a V H K Q hK => op_quiet (quiet_move (.tmp 2) (H.old 2 (by kernel_rfl) (by kernel_rfl)) (.inl rfl)) hK) ?_
        refine gr_onV (j := 2) (d := 46) (want := false) (u := .bool false) rfl (by kernel_rfl) (by kernel_rfl) (fun a V H => (H.rel 2 46 (by kernel_rfl) (by kernel_rfl) rfl)) (by kernel_rfl) (fun a V H K Q hK => op_callK _ #[.agg #[.int .u8 ox, .bool ix1, .bool px1, .slice Dx1 jx1 ex1, .bool ix2, .bool px2, .slice Dx2 jx2 ex2], .slice A5 n5 c5] (by kernel_rfl) (by kernel_rfl) (by kernel_rfl) (map2 (H.rel 3 47 (by kernel_rfl) (by kernel_rfl) rfl) (H.rel 4 48 (by kernel_rfl) (by kernel_rfl) rfl)) (K6.out _ (next_below hB H.frame)) (by kernel_rfl) hK) ?_
        refine gr_onV (j := 2) (d := 46) (want := false) (u := .bool false) rfl (by kernel_rfl) (by kernel_rfl) (fun a V H => (H.rel 2 46 (by kernel_rfl) (by kernel_rfl) rfl)) (by kernel_rfl) (fun a V H K Q hK => op_quiet (quiet_agg _ (.tmp 3) _ 0 (H.old 3 (by kernel_rfl) (by kernel_rfl)) #[.int .u8 oa, .bool ia1, .bool pa1, .slice A1 n1 c1, .bool ia2, .bool pa2, .slice A2 n2 c2] (fun j v hj => X0.out _ (next_below hB H.frame) _ v (part_at 0 ⟨_, rfl⟩ j v hj)) Tryd.underlying31 rfl (by kernel_rfl) (by kernel_rfl)) hK) ?_
        refine gr_onV (j := 2) (d := 46) (want := false) (u := .bool false) rfl (by kernel_rfl) (by kernel_rfl) (fun a V H => (H.rel 2 46 (by kernel_rfl) (by kernel_rfl) rfl)) (by kernel_rfl) (fun a V H K Q hK => op_quiet (quiet_move (.tmp 2) (H.old 2 (by kernel_rfl) (by kernel_rfl)) (.inl rfl)) hK) ?_
        refine gr_onV (j := 2) (d := 46) (want := false) (u := .bool false) rfl (by kernel_rfl) (by kernel_rfl) (fun a V H => (H.rel 2 46 (by kernel_rfl) (by kernel_rfl) rfl)) (by kernel_rfl) (fun a V H K Q hK => op_callK _ #[.agg #[.int .u8 oa, .bool ia1, .bool pa1, .slice A1 n1 c1, .bool ia2, .bool pa2, .slice A2 n2 c2], .slice A5 n5 c5] (by kernel_rfl) (by kernel_rfl) (by kernel_rfl) (map2 (H.rel 6 50 (by kernel_rfl) (by kernel_rfl) rfl) (H.rel 7 51 (by kernel_rfl) (by kernel_rfl) rfl)) (K3.out _ (next_below hB H.frame)) (by kernel_rfl) hK) ?_
        refine gr_onV (j := 2) (d := 46) (want := false) (u := .bool false) rfl (by kernel_rfl) (by kernel_rfl) (fun a V H => (H.rel 2 46 (by kernel_rfl) (by kernel_rfl) rfl)) (by kernel_rfl) (fun a V H K Q hK => op_quiet (quiet_move (.tmp 52) (H.rel 8 52 (by kernel_rfl) (by kernel_rfl) rfl) (.inl rfl)) hK) ?_
        refine gr_offV (j := 9) (d := 53) (want := true) (u := .bool false) rfl (by kernel_rfl) (by kernel_rfl) (fun a V H => (H.rel 9 53 (by kernel_rfl) (by kernel_rfl) rfl)) (by kernel_rfl) ?_
        refine gr_offV (j := 9) (d := 53) (want := true) (u := .bool false) rfl (by kernel_rfl) (by kernel_rfl) (fun a V H => (H.rel 9 53 (by kernel_rfl) (by kernel_rfl) rfl)) (by kernel_rfl) ?_
        refine gr_offV (j := 9) (d := 53) (want := true) (u := .bool false) rfl (by kernel_rfl) (by kernel_rfl) (fun a V H => (H.rel 9 53 (by kernel_rfl) (by kernel_rfl) rfl)) (by kernel_rfl) ?_
        refine gr_onV (j := 2) (d := 46) (want := false) (u := .bool false) rfl (by kernel_rfl) (by kernel_rfl) (fun a V H => (H.rel 2 46 (by kernel_rfl) (by kernel_rfl) rfl)) (by kernel_rfl) (fun a V H K Q hK => op_quiet (quiet_pickF (.tmp 53) (.tmp 56) (.const (.bool false)) (H.rel 9 53 (by kernel_rfl) (by kernel_rfl) rfl) (show a.eval (.const (.bool false)) = .bool false from rfl) (by kernel_rfl)) hK) ?_
        refine gr_onV (j := 2) (d := 46) (want := false) (u := .bool false) rfl (by kernel_rfl) (by kernel_rfl) (fun a V H => (H.rel 2 46 (by kernel_rfl) (by kernel_rfl) rfl)) (by kernel_rfl) (fun a V H K Q hK => op_quiet (quiet_eqlB (.tmp 49) (.tmp 57) false false true 4 4 Tryd.underlying4 rfl (H.rel 5 49 (by kernel_rfl) (by kernel_rfl) rfl) (H.rel 13 57 (by kernel_rfl) (by kernel_rfl) rfl) (by kernel_rfl)) hK) ?_
        refine gr_val rfl (by kernel_rfl) (fun a V H K Q hK => op_quiet (quiet_pickF (.tmp 46) (.const (.bool true)) (.tmp 58) (H.rel 2 46 (by kernel_rfl) (by kernel_rfl) rfl) (H.rel 14 58 (by kernel_rfl) (by kernel_rfl) rfl) (by kernel_rfl)) hK) ?_
        refine gr_val rfl (by kernel_rfl) (fun a V H K Q hK => op_quiet (quiet_move (.tmp 59) (H.rel 15 59 (by kernel_rfl) (by kernel_rfl) rfl) (.inl rfl)) hK) ?_
        refine gr_onV (j := 16) (d := 60) (want := true) (u := .bool true) rfl (by kernel_rfl) (by kernel_rfl) (fun a V H => (H.rel 16 60 (by kernel_rfl) (by kernel_rfl) rfl)) (by kernel_rfl) (fun a V H K Q hK => op_callK _ #[] (by kernel_rfl) (by kernel_rfl) (by kernel_rfl) (map0 ) (KA.out _ (next_below hB H.frame)) (by kernel_rfl) hK) ?_
        refine gr_val rfl (by kernel_rfl) (fun a V H K Q hK => op_quiet (quiet_pickT (.tmp 60) (.tmp 61) (.const (.bool false)) (H.rel 16 60 (by kernel_rfl) (by kernel_rfl) rfl) (H.rel 17 61 (by kernel_rfl) (by kernel_rfl) rfl) (by kernel_rfl)) hK) ?_
        refine gr_val rfl (by kernel_rfl) (fun a V H K Q hK => op_quiet (quiet_move (.tmp 62) (H.rel 18 62 (by kernel_rfl) (by kernel_rfl) rfl) (.inr rfl)) hK) ?_
        exact gr_nil
      case hf1 =>
      intro x V hF
      have e0 : x 0 = .bool true := hF.rel 0 _ rfl
      have e1 : x 1 = .bool false := hF.rel 1 _ rfl
      have e2 : x 2 = .bool false := hF.rel 2 _ rfl
      have e3 : x 3 = .agg #[.int .u8 ox, .bool ix1, .bool px1, .slice Dx1 jx1 ex1, .bool ix2, .bool px2, .slice Dx2 jx2 ex2] := hF.rel 3 _ rfl
      have e4 : x 4 = .slice A5 n5 c5 := hF.rel 4 _ rfl
      have e5 : x 5 = .bool false := hF.rel 5 _ rfl
      have e6 : x 6 = .agg #[.int .u8 oa, .bool ia1, .bool pa1, .slice A1 n1 c1, .bool ia2, .bool pa2, .slice A2 n2 c2] := hF.rel 6 _ rfl
      have e7 : x 7 = .slice A5 n5 c5 := hF.rel 7 _ rfl
      have e8 : x 8 = .bool false := hF.rel 8 _ rfl
      have e9 : x 9 = .bool false := hF.rel 9 _ rfl
      have e10 : x 10 = undef := hF.rel 10 _ rfl
      have e11 : x 11 = undef := hF.rel 11 _ rfl
      have e12 : x 12 = undef := hF.rel 12 _ rfl
      have e13 : x 13 = .bool false := hF.rel 13 _ rfl
      have e14 : x 14 = .bool true := hF.rel 14 _ rfl
      have e15 : x 15 = .bool true := hF.rel 15 _ rfl
      have e16 : x 16 = .bool true := hF.rel 16 _ rfl
      have e17 : x 17 = .bool true := hF.rel 17 _ rfl
      have e18 : x 18 = .bool true := hF.rel 18 _ rfl
      have e19 : x 19 = .bool true := hF.rel 19 _ rfl
      have hbf := hF.frame
      clear hF
      simp only [Sch.finL, List.setIfInBounds_toArray, List.set_cons_zero, List.set_cons_succ, e0, e1, e2, e3, e4, e5, e6, e7, e8, e9, e10, e11, e12, e13, e14, e15, e16, e17, e18, e19]
      clear e0 e1 e2 e3 e4 e5 e6 e7 e8 e9 e10 e11 e12 e13 e14 e15 e16 e17 e18 e19
      refine tail_nil ?_
      go_wp2_with fail
      go_ret
      exact ⟨rfl, next_below HB0.out (next_below hB hbf)⟩
    · refine wp_R [44, 45, 46, 47, 48, 49, 50, 51, 52, 53, 54, 55, 56, 57, 58, 59, 60, 61, 62, 6] [Rk.val (.bool true), Rk.val (.bool false), Rk.val (.bool false), Rk.val (.agg #[.int .u8 ox, .bool ix1, .bool px1, .slice Dx1 jx1 ex1, .bool ix2, .bool px2, .slice Dx2 jx2 ex2]), Rk.val (.slice A5 n5 c5), Rk.val (.bool false), Rk.val (.agg #[.int .u8 oa, .bool ia1, .bool pa1, .slice A1 n1 c1, .bool ia2, .bool pa2, .slice A2 n2 c2]), Rk.val (.slice A5 n5 c5), Rk.val (.bool true), Rk.val (.bool true), Rk.val (.agg #[.int .u8 ob, .bool ib1, .bool pb1, .slice A3 n3 c3, .bool ib2, .bool pb2, .slice A4 n4 c4]), Rk.val (.slice A5 n5 c5), Rk.val (.bool false), Rk.val (.bool false), Rk.val (.bool true), Rk.val (.bool true), Rk.val (.bool true), Rk.val (.bool true), Rk.val (.bool true), Rk.val (.bool true)] rfl (by kernel_rfl) (by kernel_rfl) (by kernel_rfl) (by kernel_rfl) ?hg1 _ (by rfl) ?hf1
      case hg1 =>
        refine gr_val rfl (by kernel_rfl) (fun a V H K Q hK => op_quiet (quiet_move (.tmp 8) (H.old 8 (by kernel_rfl) (by kernel_rfl)) (.inl rfl)) hK) ?_
        refine gr_val rfl (by kernel_rfl) (fun a V H K Q hK => op_quiet (quiet_not 4 (.tmp 44) (H.rel 0 44 (by kernel_rfl) (by kernel_rfl) rfl) (by kernel_rfl)) hK) ?_
        refine gr_val rfl (by kernel_rfl) (fun a V H K Q hK => op_quiet (quiet_move (.tmp 45) (H.rel 1 45 (by kernel_rfl) (by kernel_rfl) rfl) (.inl rfl)) hK) ?_
        refine gr_onV (j := 2) (d := 46) (want := false) (u := .bool false) rfl (by kernel_rfl) (by kernel_rfl) (fun a V H => (H.rel 2 46 (by kernel_rfl) (by kernel_rfl) rfl)) (by kernel_rfl) (fun a V H K Q hK => op_quiet (quiet_agg _ (.tmp 7) _ 0 (H.old 7 (by kernel_rfl) (by kernel_rfl)) #[.int .u8 ox, .bool ix1, .bool px1, .slice Dx1 jx1 ex1, .bool ix2, .bool px2, .slice Dx2 jx2 ex2] (fun j v hj => X2.out _ (next_below hB H.frame) _ v (part_at 0 ⟨_, rfl⟩ j v hj)) Tryd.underlying31 rfl (by kernel_rfl) (by kernel_rfl)) hK) ?_
        refine gr_onV (j := 2) (d := 46) (want := false) (u := .bool false) rfl (by kernel_rfl) (by kernel_rfl) (fun a V H => (H.rel 2 46 (by kernel_rfl) (by kernel_rfl) rfl)) (by kernel_rfl) (fun a V H K Q hK => op_quiet (quiet_move (.tmp 2) (H.old 2 (by kernel_rfl) (by kernel_rfl)) (.inl rfl)) hK) ?_
        refine gr_onV (j := 2) (d := 46) (want := false) (u := .bool false) rfl (by kernel_rfl) (by kernel_rfl) (fun a V H => (H.rel 2 46 (by kernel_rfl) (by kernel_rfl) rfl)) (by kernel_rfl) (fun a V H K Q hK => op_callK _ #[.agg #[.int .u8 ox, .bool ix1, .bool px1, .slice Dx1 jx1 ex1, .bool ix2, .bool px2, .slice Dx2 jx2 ex2], .slice A5 n5 c5] (by kernel_rfl) (by kernel_rfl) (by kernel_rfl) (map2 (H.rel 3 47 (by kernel_rfl) (by kernel_rfl) rfl) (H.rel 4 48 (by kernel_rfl) (by kernel_rfl) rfl)) (K6.out _ (next_below hB H.frame)) (by kernel_rfl) hK) ?_
        refine gr_onV (j := 2) (d := 46) (want := false) (u := .bool false) rfl (by kernel_rfl) (by kernel_rfl) (fun a V H => (H.rel 2 46 (by kernel_rfl) (by kernel_rfl) rfl)) (by kernel_rfl) (fun a V H K Q hK => op_quiet (quiet_agg _ (.tmp 3) _ 0 (H.old 3 (by kernel_rfl) (by kernel_rfl)) #[.int .u8 oa, .bool ia1, .bool pa1, .slice A1 n1 c1, .bool ia2, .bool pa2, .slice A2 n2 c2] (fun j v hj => X0.out _ (next_below hB H.frame) _ v (part_at 0 ⟨_, rfl⟩ j v hj)) Tryd.underlying31 rfl (by kernel_rfl) (by kernel_rfl)) hK) ?_
        refine gr_onV (j := 2) (d := 46) (want := false) (u := .bool false) rfl (by kernel_rfl) (by kernel_rfl) (fun a V H => (H.rel 2 46 (by kernel_rfl) (by kernel_rfl) rfl)) (by kernel_rfl) (fun a V H K Q hK => op_quiet (quiet_move (.tmp 2) (H.old 2 (by kernel_rfl) (by kernel_rfl)) (.inl rfl)) hK) ?_
        refine gr_onV (j := 2) (d := 46) (want := false) (u := .bool false) rfl (by kernel_rfl) (by kernel_rfl) (fun a V H => (H.rel 2 46 (by kernel_rfl) (by kernel_rfl) rfl)) (by kernel_rfl) (fun a V H K Q hK => op_callK _ #[.agg #[.int .u8 oa, .bool ia1, .bool pa1, .slice A1 n1 c1, .bool ia2, .bool pa2, .slice A2 n2 c2], .slice A5 n5 c5] (by kernel_rfl) (by kernel_rfl) (by kernel_rfl) (map2 (H.rel 6 50 (by kernel_rfl) (by kernel_rfl) rfl) (H.rel 7 51 (by kernel_rfl) (by kernel_rfl) rfl)) (K3.out _ (next_below hB H.frame)) (by kernel_rfl) hK) ?_
        refine gr_onV (j := 2) (d := 46) (want := false) (u := .bool false) rfl (by kernel_rfl) (by kernel_rfl) (fun a V H => (H.rel 2 46 (by kernel_rfl) (by kernel_rfl) rfl)) (by kernel_rfl) (fun a V H K Q hK => op_quiet (quiet_move (.tmp 52) (H.rel 8 52 (by kernel_rfl) (by kernel_rfl) rfl) (.inl rfl)) hK) ?_
        refine gr_onV (j := 9) (d := 53) (want := true) (u := .bool true) rfl (by kernel_rfl) (by kernel_rfl) (fun a V H => (H.rel 9 53 (by kernel_rfl) (by kernel_rfl) rfl)) (by kernel_rfl) (fun a V H K Q hK => op_quiet (quiet_agg _ (.tmp 4) _ 0 (H.old 4 (by kernel_rfl) (by kernel_rfl)) #[.int .u8 ob, .bool ib1, .bool pb1, .slice A3 n3 c3, .bool ib2, .bool pb2, .slice A4 n4 c4] (fun j v hj => X1.out _ (next_below hB H.frame) _ v (part_at 0 ⟨_, rfl⟩ j v hj)) Tryd.underlying31 rfl (by kernel_rfl) (by kernel_rfl)) hK) ?_
        refine gr_onV (j := 9) (d := 53) (want := true) (u := .bool true) rfl (by kernel_rfl) (by kernel_rfl) (fun a V H => (H.rel 9 53 (by kernel_rfl) (by kernel_rfl) rfl)) (by kernel_rfl) (fun a V H K Q hK => op_quiet (quiet_move (.tmp 2) (H.old 2 (by kernel_rfl) (by kernel_rfl)) (.inl rfl)) hK) ?_
        refine gr_onV (j := 9) (d := 53) (want := true) (u := .bool true) rfl (by kernel_rfl) (by kernel_rfl) (fun a V H => (H.rel 9 53 (by kernel_rfl) (by kernel_rfl) rfl)) (by kernel_rfl) (fun a V H K Q hK => op_callK _ #[.agg #[.int .u8 ob, .bool ib1, .bool pb1, .slice A3 n3 c3, .bool ib2, .bool pb2, .slice A4 n4 c4], .slice A5 n5 c5] (by kernel_rfl) (by kernel_rfl) (by kernel_rfl) (map2 (H.rel 10 54 (by kernel_rfl) (by kernel_rfl) rfl) (H.rel 11 55 (by kernel_rfl) (by kernel_rfl) rfl)) (K4.out _ (next_below hB H.frame)) (by kernel_rfl) hK) ?_
        refine gr_onV (j := 2) (d := 46) (want := false) (u := .bool false) rfl (by kernel_rfl) (by kernel_rfl) (fun a V H => (H.rel 2 46 (by kernel_rfl) (by kernel_rfl) rfl)) (by kernel_rfl) (fun a V H K Q hK => op_quiet (quiet_pickT (.tmp 53) (.tmp 56) (.const (.bool false)) (H.rel 9 53 (by kernel_rfl) (by kernel_rfl) rfl) (H.rel 12 56 (by kernel_rfl) (by kernel_rfl) rfl) (by kernel_rfl)) hK) ?_
        refine gr_onV (j := 2) (d := 46) (want := false) (u := .bool false) rfl (by kernel_rfl) (by kernel_rfl) (fun a V H => (H.rel 2 46 (by kernel_rfl) (by kernel_rfl) rfl)) (by kernel_rfl) (fun a V H K Q hK => op_quiet (quiet_eqlB (.tmp 49) (.tmp 57) false false true 4 4 Tryd.underlying4 rfl (H.rel 5 49 (by kernel_rfl) (by kernel_rfl) rfl) (H.rel 13 57 (by kernel_rfl) (by kernel_rfl) rfl) (by kernel_rfl)) hK) ?_
        refine gr_val rfl (by kernel_rfl) (fun a V H K Q hK => op_quiet (quiet_pickF (.tmp 46) (.const (.bool true)) (.tmp 58) (H.rel 2 46 (by kernel_rfl) (by kernel_rfl) rfl) (H.rel 14 58 (by kernel_rfl) (by kernel_rfl) rfl) (by kernel_rfl)) hK) ?_
        refine gr_val rfl (by kernel_rfl) (fun a V H K Q hK => op_quiet (quiet_move (.tmp 59) (H.rel 15 59 (by kernel_rfl) (by kernel_rfl) rfl) (.inl rfl)) hK) ?_
        refine gr_onV (j := 16) (d := 60) (want := true) (u := .bool true) rfl (by kernel_rfl) (by kernel_rfl) (fun a V H => (H.rel 16 60 (by kernel_rfl) (by kernel_rfl) rfl)) (by kernel_rfl) (fun a V H K Q hK => op_callK _ #[] (by kernel_rfl) (by kernel_rfl) (by kernel_rfl) (map0 ) (KA.out _ (next_below hB H.frame)) (by kernel_rfl) hK) ?_
        refine gr_val rfl (by kernel_rfl) (fun a V H K Q hK => op_quiet (quiet_pickT (.tmp 60) (.tmp 61) (.const (.bool false)) (H.rel 16 60 (by kernel_rfl) (by kernel_rfl) rfl) (H.rel 17 61 (by kernel_rfl) (by kernel_rfl) rfl) (by kernel_rfl)) hK) ?_
        refine gr_val rfl (by kernel_rfl) (fun a V H K Q hK => op_quiet (quiet_move (.tmp 62) (H.rel 18 62 (by kernel_rfl) (by kernel_rfl) rfl) (.inr rfl)) hK) ?_
        exact gr_nil
      case hf1 =>
      intro x V hF
      have e0 : x 0 = .bool true := hF.rel 0 _ rfl
      have e1 : x 1 = .bool false := hF.rel 1 _ rfl
      have e2 : x 2 = .bool false := hF.rel 2 _ rfl
      have e3 : x 3 = .agg #[.int .u8 ox, .bool ix1, .bool px1, .slice Dx1 jx1 ex1, .bool ix2, .bool px2, .slice Dx2 jx2 ex2] := hF.rel 3 _ rfl
      have e4 : x 4 = .slice A5 n5 c5 := hF.rel 4 _ rfl
      have e5 : x 5 = .bool false := hF.rel 5 _ rfl
      have e6 : x 6 = .agg #[.int .u8 oa, .bool ia1, .bool pa1, .slice A1 n1 c1, .bool ia2, .bool pa2, .slice A2 n2 c2] := hF.rel 6 _ rfl
      have e7 : x 7 = .slice A5 n5 c5 := hF.rel 7 _ rfl
      have e8 : x 8 = .bool true := hF.rel 8 _ rfl
      have e9 : x 9 = .bool true := hF.rel 9 _ rfl
      have e10 : x 10 = .agg #[.int .u8 ob, .bool ib1, .bool pb1, .slice A3 n3 c3, .bool ib2, .bool pb2, .slice A4 n4 c4] := hF.rel 10 _ rfl
      have e11 : x 11 = .slice A5 n5 c5 := hF.rel 11 _ rfl
      have e12 : x 12 = .bool false := hF.rel 12 _ rfl
      have e13 : x 13 = .bool false := hF.rel 13 _ rfl
      have e14 : x 14 = .bool true := hF.rel 14 _ rfl
      have e15 : x 15 = .bool true := hF.rel 15 _ rfl
      have e16 : x 16 = .bool true := hF.rel 16 _ rfl
      have e17 : x 17 = .bool true := hF.rel 17 _ rfl
      have e18 : x 18 = .bool true := hF.rel 18 _ rfl
      have e19 : x 19 = .bool true := hF.rel 19 _ rfl
      have hbf := hF.frame
      clear hF
      simp only [Sch.finL, List.setIfInBounds_toArray, List.set_cons_zero, List.set_cons_succ, e0, e1, e2, e3, e4, e5, e6, e7, e8, e9, e10, e11, e12, e13, e14, e15, e16, e17, e18, e19]
      clear e0 e1 e2 e3 e4 e5 e6 e7 e8 e9 e10 e11 e12 e13 e14 e15 e16 e17 e18 e19
      refine tail_nil ?_
      go_wp2_with fail
      go_ret
      exact ⟨rfl, next_below HB0.out (next_below hB hbf)⟩
    · refine wp_R [44, 45, 46, 47, 48, 49, 50, 51, 52, 53, 54, 55, 56, 57, 58, 59, 60, 61, 62, 6] [Rk.val (.bool true), Rk.val (.bool false), Rk.val (.bool false), Rk.val (.agg #[.int .u8 ox, .bool ix1, .bool px1, .slice Dx1 jx1 ex1, .bool ix2, .bool px2, .slice Dx2 jx2 ex2]), Rk.val (.slice A5 n5 c5), Rk.val (.bool true), Rk.val (.agg #[.int .u8 oa, .bool ia1, .bool pa1, .slice A1 n1 c1, .bool ia2, .bool pa2, .slice A2 n2 c2]), Rk.val (.slice A5 n5 c5), Rk.val (.bool true), Rk.val (.bool true), Rk.val (.agg #[.int .u8 ob, .bool ib1, .bool pb1, .slice A3 n3 c3, .bool ib2, .bool pb2, .slice A4 n4 c4]), Rk.val (.slice A5 n5 c5), Rk.val (.bool true), Rk.val (.bool true), Rk.val (.bool true), Rk.val (.bool true), Rk.val (.bool true), Rk.val (.bool true), Rk.val (.bool true), Rk.val (.bool true)] rfl (by kernel_rfl) (by kernel_rfl) (by kernel_rfl) (by kernel_rfl) ?hg1 _ (by rfl) ?hf1
      case hg1 =>
        refine gr_val rfl (by kernel_rfl) (fun a V H K Q hK => op_quiet (quiet_move (.tmp 8) (H.old 8 (by kernel_rfl) (by kernel_rfl)) (.inl rfl)) hK) ?_
        refine gr_val rfl (by kernel_rfl) (fun a V H K Q hK => op_quiet (quiet_not 4 (.tmp 44) (H.rel 0 44 (by kernel_rfl) (by kernel_rfl) rfl) (by kernel_rfl)) hK) ?_
        refine gr_val rfl (by kernel_rfl) (fun a V H K Q hK => op_quiet (quiet_move (.tmp 45) (H.rel 1 45 (by kernel_rfl) (by kernel_rfl) rfl) (.inl rfl)) hK) ?_
        refine gr_onV (j := 2) (d := 46) (want := false) (u := .bool false) rfl (by kernel_rfl) (by kernel_rfl) (fun a V H => (H.rel 2 46 (by kernel_rfl) (by kernel_rfl) rfl)) (by kernel_rfl) (fun a V H K Q hK => op_quiet (quiet_agg _ (.tmp 7) _ 0 (H.old 7 (by kernel_rfl) (by kernel_rfl)) #[.int .u8 ox, .bool ix1, .bool px1, .slice Dx1 jx1 ex1, .bool ix2, .bool px2, .slice Dx2 jx2 ex2] (fun j v hj => X2.out _ (next_below hB H.frame) _ v (part_at 0 ⟨_, rfl⟩ j v hj)) Tryd.underlying31 rfl (by kernel_rfl) (by kernel_rfl)) hK) ?_
        refine gr_onV (j := 2) (d := 46) (want := false) (u := .bool false) rfl (by kernel_rfl) (by kernel_rfl) (fun a V H => (H.rel 2 46 (by kernel_rfl) (by kernel_rfl) rfl)) (by kernel_rfl) (fun a V H K Q hK => op_quiet (quiet_move (.tmp 2) (H.old 2 (by kernel_rfl) (by kernel_rfl)) (.inl rfl)) hK) ?_
        refine gr_onV (j := 2) (d := 46) (want := false) (u := .bool false) rfl (by kernel_rfl) (by kernel_rfl) (fun a V H => (H.rel 2 46 (by kernel_rfl) (by kernel_rfl) rfl)) (by kernel_rfl) (fun a V H K Q hK => op_callK _ #[.agg #[.int .u8 ox, .bool ix1, .bool px1, .slice Dx1 jx1 ex1, .bool ix2, .bool px2, .slice Dx2 jx2 ex2], .slice A5 n5 c5] (by kernel_rfl) (by kernel_rfl) (by kernel_rfl) (map2 (H.rel 3 47 (by kernel_rfl) (by kernel_rfl) rfl) (H.rel 4 48 (by kernel_rfl) (by kernel_rfl) rfl)) (K6.out _ (next_below hB H.frame)) (by kernel_rfl) hK) ?_
        refine gr_onV (j := 2) (d := 46) (want := false) (u := .bool false) rfl (by kernel_rfl) (by kernel_rfl) (fun a V H => (H.rel 2 46 (by kernel_rfl) (by kernel_rfl) rfl)) (by kernel_rfl) (fun a V H K Q hK => op_quiet (quiet_agg _ (.tmp 3) _ 0 (H.old 3 (by kernel_rfl) (by kernel_rfl)) #[.int .u8 oa, .bool ia1, .bool pa1, .slice A1 n1 c1, .bool ia2, .bool pa2, .slice A2 n2 c2] (fun j v hj => X0.out _ (next_below hB H.frame) _ v (part_at 0 ⟨_, rfl⟩ j v hj)) Tryd.underlying31 rfl (by kernel_rfl) (by kernel_rfl)) hK) ?_
        refine gr_onV (j := 2) (d := 46) (want := false) (u := .bool false) rfl (by kernel_rfl) (by kernel_rfl) (fun a V H => (H.rel 2 46 (by kernel_rfl) (by kernel_rfl) rfl)) (by kernel_rfl) (fun a V H K Q hK => op_quiet (quiet_move (.tmp 2) (H.old 2 (by kernel_rfl) (by kernel_rfl)) (.inl rfl)) hK) ?_
        refine gr_onV (j := 2) (d := 46) (want := false) (u := .bool false) rfl (by kernel_rfl) (by kernel_rfl) (fun a V H => (H.rel 2 46 (by kernel_rfl) (by kernel_rfl) rfl)) (by kernel_rfl) (fun a V H K Q hK => op_callK _ #[.agg #[.int .u8 oa, .bool ia1, .bool pa1, .slice A1 n1 c1, .bool ia2, .bool pa2, .slice A2 n2 c2], .slice A5 n5 c5] (by kernel_rfl) (by kernel_rfl) (by kernel_rfl) (map2 (H.rel 6 50 (by kernel_rfl) (by kernel_rfl) rfl) (H.rel 7 51 (by kernel_rfl) (by kernel_rfl) rfl)) (K3.out _ (next_below hB H.frame)) (by kernel_rfl) hK) ?_
        refine gr_onV (j := 2) (d := 46) (want := false) (u := .bool false) rfl (by kernel_rfl) (by kernel_rfl) (fun a V H => (H.rel 2 46 (by kernel_rfl) (by kernel_rfl) rfl)) (by kernel_rfl) (fun a V H K Q hK => op_quiet (quiet_move (.tmp 52) (H.rel 8 52 (by kernel_rfl) (by kernel_rfl) rfl) (.inl rfl)) hK) ?_
        refine gr_onV (j := 9) (d := 53) (want := true) (u := .bool true) rfl (by kernel_rfl) (by kernel_rfl) (fun a V H => (H.rel 9 53 (by kernel_rfl) (by kernel_rfl) rfl)) (by kernel_rfl) (fun a V H K Q hK => op_quiet (quiet_agg _ (.tmp 4) _ 0 (H.old 4 (by kernel_rfl) (by kernel_rfl)) #[.int .u8 ob, .bool ib1, .bool pb1, .slice A3 n3 c3, .bool ib2, .bool pb2, .slice A4 n4 c4] (fun j v hj => X1.out _ (next_below hB H.frame) _ v (part_at 0 ⟨_, rfl⟩ j v hj)) Tryd.underlying31 rfl (by kernel_rfl) (by kernel_rfl)) hK) ?_
        refine gr_onV (j := 9) (d := 53) (want := true) (u := .bool true) rfl (by kernel_rfl) (by kernel_rfl) (fun a V H => (H.rel 9 53 (by kernel_rfl) (by kernel_rfl) rfl)) (by kernel_rfl) (fun a V H K Q hK => op_quiet (quiet_move (.tmp 2) (H.old 2 (by kernel_rfl) (by kernel_rfl)) (.inl rfl)) hK) ?_
        refine gr_onV (j := 9) (d := 53) (want := true) (u := .bool true) rfl (by kernel_rfl) (by kernel_rfl) (fun a V H => (H.rel 9 53 (by kernel_rfl) (by kernel_rfl) rfl)) (by kernel_rfl) (fun a V H K Q hK => op_callK _ #[.agg #[.int .u8 ob, .bool ib1, .bool pb1, .slice A3 n3 c3, .bool ib2, .bool pb2, .slice A4 n4 c4], .slice A5 n5 c5] (by kernel_rfl) (by kernel_rfl) (by kernel_rfl) (map2 (H.rel 10 54 (by kernel_rfl) (by kernel_rfl) rfl) (H.rel 11 55 (by kernel_rfl) (by kernel_rfl) rfl)) (K4.out _ (next_below hB H.frame)) (by kernel_rfl) hK) ?_
        refine gr_onV (j := 2) (d := 46) (want := false) (u := .bool false) rfl (by kernel_rfl) (by kernel_rfl) (fun a V H => (H.rel 2 46 (by kernel_rfl) (by kernel_rfl) rfl)) (by kernel_rfl) (fun a V H K Q hK => op_quiet (quiet_pickT (.tmp 53) (.tmp 56) (.const (.bool false)) (H.rel 9 53 (by kernel_rfl) (by kernel_rfl) rfl) (H.rel 12 56 (by kernel_rfl) (by kernel_rfl) rfl) (by kernel_rfl)) hK) ?_
        refine gr_onV (j := 2) (d := 46) (want := false) (u := .bool false) rfl (by kernel_rfl) (by kernel_rfl) (fun a V H => (H.rel 2 46 (by kernel_rfl) (by kernel_rfl) rfl)) (by kernel_rfl) (fun a V H K Q hK => op_quiet (quiet_eqlB (.tmp 49) (.tmp 57) true true true 4 4 Tryd.underlying4 rfl (H.rel 5 49 (by kernel_rfl) (by kernel_rfl) rfl) (H.rel 13 57 (by kernel_rfl) (by kernel_rfl) rfl) (by kernel_rfl)) hK) ?_
        refine gr_val rfl (by kernel_rfl) (fun a V H K Q hK => op_quiet (quiet_pickF (.tmp 46) (.const (.bool true)) (.tmp 58) (H.rel 2 46 (by kernel_rfl) (by kernel_rfl) rfl) (H.rel 14 58 (by kernel_rfl) (by kernel_rfl) rfl) (by kernel_rfl)) hK) ?_
        refine gr_val rfl (by kernel_rfl) (fun a V H K Q hK => op_quiet (quiet_move (.tmp 59) (H.rel 15 59 (by kernel_rfl) (by kernel_rfl) rfl) (.inl rfl)) hK) ?_
        refine gr_onV (j := 16) (d := 60) (want := true) (u := .bool true) rfl (by kernel_rfl) (by kernel_rfl) (fun a V H => (H.rel 16 60 (by kernel_rfl) (by kernel_rfl) rfl)) (by kernel_rfl) (fun a V H K Q hK => op_callK _ #[] (by kernel_rfl) (by kernel_rfl) (by kernel_rfl) (map0 ) (KA.out _ (next_below hB H.frame)) (by kernel_rfl) hK) ?_
        refine gr_val rfl (by kernel_rfl) (fun a V H K Q hK => op_quiet (quiet_pickT (.tmp 60) (.tmp 61) (.const (.bool false)) (H.rel 16 60 (by kernel_rfl) (by kernel_rfl) rfl) (H.rel 17 61 (by kernel_rfl) (by kernel_rfl) rfl) (by kernel_rfl)) hK) ?_
        refine gr_val rfl (by kernel_rfl) (fun a V H K Q hK => op_quiet (quiet_move (.tmp 62) (H.rel 18 62 (by kernel_rfl) (by kernel_rfl) rfl) (.inr rfl)) hK) ?_
        exact gr_nil
      case hf1 =>
      intro x V hF
      have e0 : x 0 = .bool true := hF.rel 0 _ rfl
      have e1 : x 1 = .bool false := hF.rel 1 _ rfl
      have e2 : x 2 = .bool false := hF.rel 2 _ rfl
      have e3 : x 3 = .agg #[.int .u8 ox, .bool ix1, .bool px1, .slice Dx1 jx1 ex1, .bool ix2, .bool px2, .slice Dx2 jx2 ex2] := hF.rel 3 _ rfl
      have e4 : x 4 = .slice A5 n5 c5 := hF.rel 4 _ rfl
      have e5 : x 5 = .bool true := hF.rel 5 _ rfl
      have e6 : x 6 = .agg #[.int .u8 oa, .bool ia1, .bool pa1, .slice A1 n1 c1, .bool ia2, .bool pa2, .slice A2 n2 c2] := hF.rel 6 _ rfl
      have e7 : x 7 = .slice A5 n5 c5 := hF.rel 7 _ rfl
      have e8 : x 8 = .bool true := hF.rel 8 _ rfl
      have e9 : x 9 = .bool true := hF.rel 9 _ rfl
      have e10 : x 10 = .agg #[.int .u8 ob, .bool ib1, .bool pb1, .slice A3 n3 c3, .bool ib2, .bool pb2, .slice A4 n4 c4] := hF.rel 10 _ rfl
      have e11 : x 11 = .slice A5 n5 c5 := hF.rel 11 _ rfl
      have e12 : x 12 = .bool true := hF.rel 12 _ rfl
      have e13 : x 13 = .bool true := hF.rel 13 _ rfl
      have e14 : x 14 = .bool true := hF.rel 14 _ rfl
      have e15 : x 15 = .bool true := hF.rel 15 _ rfl
      have e16 : x 16 = .bool true := hF.rel 16 _ rfl
      have e17 : x 17 = .bool true := hF.rel 17 _ rfl
      have e18 : x 18 = .bool true := hF.rel 18 _ rfl
      have e19 : x 19 = .bool true := hF.rel 19 _ rfl
      have hbf := hF.frame
      clear hF
      simp only [Sch.finL, List.setIfInBounds_toArray, List.set_cons_zero, List.set_cons_succ, e0, e1, e2, e3, e4, e5, e6, e7, e8, e9, e10, e11, e12, e13, e14, e15, e16, e17, e18, e19]
      clear e0 e1 e2 e3 e4 e5 e6 e7 e8 e9 e10 e11 e12 e13 e14 e15 e16 e17 e18 e19
      refine tail_nil ?_
      go_wp2_with fail
      go_ret
      exact ⟨rfl, next_below HB0.out (next_below hB hbf)⟩
end Go.Proofs.YtjdmhbfddklhnaaDoor
