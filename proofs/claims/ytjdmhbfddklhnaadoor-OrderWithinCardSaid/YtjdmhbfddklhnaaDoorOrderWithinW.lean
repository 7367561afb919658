/-
  The walk of the law OrderWithin over contracts of the program's package order. Conditions: those contracts.
-/
import Derived.Test.YtjdmhbfddklhnaaDoorOrdAwake
import Derived.Test.YtjdmhbfddklhnaaDoorAuto
set_option linter.unusedVariables false
set_option linter.unusedSimpArgs false
set_option maxRecDepth 100000
namespace Go.Proofs.YtjdmhbfddklhnaaDoor
open Go Go.Proofs Go.RowKit _root_.Ord11 Go.Proofs.YtjdmhbfddklhnaaDoor.Ord11
open Sch (wp_R gr_val gr_is gr_fresh gr_nil gr_on gr_onV gr_offV op_callR Rk)

set_option maxHeartbeats 16000000 in
theorem owithin_walk {Q : World → Prop} (H : OrderOk Q) (r s : Rg) (hor : r.o < 256) (hos : s.o < 256) {A1 A2 A3 A4 A5 : Option Addr} {n1 c1 n2 c2 n3 c3 n4 c4 n5 c5 : Nat} {b : List UInt8} (w : World) (hQ : Q w) (r1 : Reads w w.heap.size 1 A1 n1 (Lib.byteCells r.lo.at_)) (k1 : n1 ≤ c1) (r2 : Reads w w.heap.size 1 A2 n2 (Lib.byteCells r.hi.at_)) (k2 : n2 ≤ c2) (r3 : Reads w w.heap.size 1 A3 n3 (Lib.byteCells s.lo.at_)) (k3 : n3 ≤ c3) (r4 : Reads w w.heap.size 1 A4 n4 (Lib.byteCells s.hi.at_)) (k4 : n4 ≤ c4) (r5 : Reads w w.heap.size 1 A5 n5 (Lib.byteCells b)) (k5 : n5 ≤ c5) :
    Calls Tryd.prog 6 #[.agg (rgC r A1 n1 c1 A2 n2 c2), .agg (rgC s A3 n3 c3 A4 n4 c4), .slice A5 n5 c5] w fun e w' => e = .returned (.bool true) ∧ Below w.heap.size w w' := by
  obtain ⟨oa, ⟨ia1, pa1, l1⟩, ⟨ia2, pa2, l2⟩⟩ := r
  obtain ⟨ob, ⟨ib1, pb1, l3⟩, ⟨ib2, pb2, l4⟩⟩ := s
  dsimp only at hor hos r1 r2 r3 r4
  obtain ⟨w0, hw0⟩ : ∃ w0, w0 = ((w.alloc (.cells #[.int .u8 oa, .bool ia1, .bool pa1, .slice A1 n1 c1, .bool ia2, .bool pa2, .slice A2 n2 c2] 31)).alloc (.cells #[.int .u8 ob, .bool ib1, .bool pb1, .slice A3 n3 c3, .bool ib2, .bool pb2, .slice A4 n4 c4] 31)) := ⟨_, rfl⟩
  have HB0 : Hid (Below w.heap.size w w0) := by
    show Below _ _ _
    rw [hw0]
    exact ((Below.refl w.heap.size w).alloc (Nat.le_refl _) _).alloc (by simp; try omega) _
  have B0 : Blk w0 w.heap.size 31 #[.int .u8 oa, .bool ia1, .bool pa1, .slice A1 n1 c1, .bool ia2, .bool pa2, .slice A2 n2 c2] := by
    rw [hw0]
    exact (Blk.new w 31 #[.int .u8 oa, .bool ia1, .bool pa1, .slice A1 n1 c1, .bool ia2, .bool pa2, .slice A2 n2 c2]).alloc (.cells #[.int .u8 ob, .bool ib1, .bool pb1, .slice A3 n3 c3, .bool ib2, .bool pb2, .slice A4 n4 c4] 31)
  have X0 : Hid (∀ W, Below w0.heap.size w0 W → ∀ k u, (#[.int .u8 oa, .bool ia1, .bool pa1, .slice A1 n1 c1, .bool ia2, .bool pa2, .slice A2 n2 c2] : Array Value)[k]? = some u → W.cell? ⟨w.heap.size, k, none⟩ = some u) := fun W hW k u hk => cell_below hW ((B0.cell k).trans hk) B0.lt
  have B1 : Blk w0 (w.heap.size + 1) 31 #[.int .u8 ob, .bool ib1, .bool pb1, .slice A3 n3 c3, .bool ib2, .bool pb2, .slice A4 n4 c4] := by
    rw [hw0]
    have h := Blk.new (w.alloc (.cells #[.int .u8 oa, .bool ia1, .bool pa1, .slice A1 n1 c1, .bool ia2, .bool pa2, .slice A2 n2 c2] 31)) 31 #[.int .u8 ob, .bool ib1, .bool pb1, .slice A3 n3 c3, .bool ib2, .bool pb2, .slice A4 n4 c4]
    simpa using h
  have X1 : Hid (∀ W, Below w0.heap.size w0 W → ∀ k u, (#[.int .u8 ob, .bool ib1, .bool pb1, .slice A3 n3 c3, .bool ib2, .bool pb2, .slice A4 n4 c4] : Array Value)[k]? = some u → W.cell? ⟨(w.heap.size + 1), k, none⟩ = some u) := fun W hW k u hk => cell_below hW ((B1.cell k).trans hk) B1.lt
  have HR : Below w0.heap.size w0 w0 := Below.refl _ _
  clear B0 B1
  have KA : Hid (∀ W, Below w0.heap.size w0 W → Calls Tryd.prog 8 #[] W fun e w' => e = .returned (.bool true) ∧ Below W.heap.size W w') := by
    intro W hW
    exact awake11_any H W (H.old hQ (next_below HB0.out hW))
  have KG : Hid (∀ W, Below w0.heap.size w0 W → Calls Tryd.prog 13 #[.agg #[.int .u8 oa, .bool ia1, .bool pa1, .slice A1 n1 c1, .bool ia2, .bool pa2, .slice A2 n2 c2]] W fun e w' => e = .returned (.bool (decide (200 < n1) || decide (200 < n2))) ∧ Below W.heap.size W w') := fun W hW => refGreat11 ⟨oa, ⟨ia1, pa1, l1⟩, ⟨ia2, pa2, l2⟩⟩ A1 A2 n1 c1 n2 c2 W
  have KH : Hid (∀ W, Below w0.heap.size w0 W → Calls Tryd.prog 13 #[.agg #[.int .u8 ob, .bool ib1, .bool pb1, .slice A3 n3 c3, .bool ib2, .bool pb2, .slice A4 n4 c4]] W fun e w' => e = .returned (.bool (decide (200 < n3) || decide (200 < n4))) ∧ Below W.heap.size W w') := fun W hW => refGreat11 ⟨ob, ⟨ib1, pb1, l3⟩, ⟨ib2, pb2, l4⟩⟩ A3 A4 n3 c3 n4 c4 W
  obtain ⟨gt, hgt⟩ : ∃ x, x = (decide (200 < n1) || decide (200 < n2)) := ⟨_, rfl⟩
  obtain ⟨gu, hgu⟩ : ∃ x, x = (decide (200 < n3) || decide (200 < n4)) := ⟨_, rfl⟩
  rw [← hgt] at KG
  rw [← hgu] at KH
  unfold rgC
  have HQ := Lib.hid hQ
  by_cases hbig : gt = true ∨ gu = true ∨ 200 < n5
  · have h3 : gt = false → gu = false → 200 < n5 := fun h h' => by
      rcases hbig with h2 | h2 | h2
      · rw [h2] at h; cases h
      · rw [h2] at h'; cases h'
      · exact h2
    clear hbig hgt hgu r1 r2 r3 r4 r5
    go_enter Tryd.func6, Tryd.ntmps6
    go_upto_region 1 with fail
    rw [← hw0]
    clear hw0
    have x0_0 := X0.out _ HR 0 _ rfl
    have x0_1 := X0.out _ HR 1 _ rfl
    have x0_2 := X0.out _ HR 2 _ rfl
    have x0_3 := X0.out _ HR 3 _ rfl
    have x0_4 := X0.out _ HR 4 _ rfl
    have x0_5 := X0.out _ HR 5 _ rfl
    have x0_6 := X0.out _ HR 6 _ rfl
    have x1_0 := X1.out _ HR 0 _ rfl
    have x1_1 := X1.out _ HR 1 _ rfl
    have x1_2 := X1.out _ HR 2 _ rfl
    have x1_3 := X1.out _ HR 3 _ rfl
    have x1_4 := X1.out _ HR 4 _ rfl
    have x1_5 := X1.out _ HR 5 _ rfl
    have x1_6 := X1.out _ HR 6 _ rfl

    cases gt with
    | true =>
      clear h3
      go_wp2_with first | (go_at_call 13; (first | (with_reducible refine (KG.out _ (by assumption)).mono ?_) | (with_reducible refine (KH.out _ (by assumption)).mono ?_)); rintro e w1 ⟨rfl, hb⟩; have hB := next_below (by assumption) hb; have x0_0 := X0.out _ hB 0 _ rfl; have x0_1 := X0.out _ hB 1 _ rfl; have x0_2 := X0.out _ hB 2 _ rfl; have x0_3 := X0.out _ hB 3 _ rfl; have x0_4 := X0.out _ hB 4 _ rfl; have x0_5 := X0.out _ hB 5 _ rfl; have x0_6 := X0.out _ hB 6 _ rfl; have x1_0 := X1.out _ hB 0 _ rfl; have x1_1 := X1.out _ hB 1 _ rfl; have x1_2 := X1.out _ hB 2 _ rfl; have x1_3 := X1.out _ hB 3 _ rfl; have x1_4 := X1.out _ hB 4 _ rfl; have x1_5 := X1.out _ hB 5 _ rfl; have x1_6 := X1.out _ hB 6 _ rfl; clear hb) | (go_at_call 8; (with_reducible refine (KA.out _ (by assumption)).mono ?_); rintro e w1 ⟨rfl, hb⟩; have hB := next_below (by assumption) hb; have x0_0 := X0.out _ hB 0 _ rfl; have x0_1 := X0.out _ hB 1 _ rfl; have x0_2 := X0.out _ hB 2 _ rfl; have x0_3 := X0.out _ hB 3 _ rfl; have x0_4 := X0.out _ hB 4 _ rfl; have x0_5 := X0.out _ hB 5 _ rfl; have x0_6 := X0.out _ hB 6 _ rfl; have x1_0 := X1.out _ hB 0 _ rfl; have x1_1 := X1.out _ hB 1 _ rfl; have x1_2 := X1.out _ hB 2 _ rfl; have x1_3 := X1.out _ hB 3 _ rfl; have x1_4 := X1.out _ hB 4 _ rfl; have x1_5 := X1.out _ hB 5 _ rfl; have x1_6 := X1.out _ hB 6 _ rfl; clear hb)
      go_ret
      exact ⟨rfl, next_below HB0.out (by assumption)⟩
    | false =>
      cases gu with
      | true =>
        clear h3
        go_wp2_with first | (go_at_call 13; (first | (with_reducible refine (KG.out _ (by assumption)).mono ?_) | (with_reducible refine (KH.out _ (by assumption)).mono ?_)); rintro e w1 ⟨rfl, hb⟩; have hB := next_below (by assumption) hb; have x0_0 := X0.out _ hB 0 _ rfl; have x0_1 := X0.out _ hB 1 _ rfl; have x0_2 := X0.out _ hB 2 _ rfl; have x0_3 := X0.out _ hB 3 _ rfl; have x0_4 := X0.out _ hB 4 _ rfl; have x0_5 := X0.out _ hB 5 _ rfl; have x0_6 := X0.out _ hB 6 _ rfl; have x1_0 := X1.out _ hB 0 _ rfl; have x1_1 := X1.out _ hB 1 _ rfl; have x1_2 := X1.out _ hB 2 _ rfl; have x1_3 := X1.out _ hB 3 _ rfl; have x1_4 := X1.out _ hB 4 _ rfl; have x1_5 := X1.out _ hB 5 _ rfl; have x1_6 := X1.out _ hB 6 _ rfl; clear hb) | (go_at_call 8; (with_reducible refine (KA.out _ (by assumption)).mono ?_); rintro e w1 ⟨rfl, hb⟩; have hB := next_below (by assumption) hb; have x0_0 := X0.out _ hB 0 _ rfl; have x0_1 := X0.out _ hB 1 _ rfl; have x0_2 := X0.out _ hB 2 _ rfl; have x0_3 := X0.out _ hB 3 _ rfl; have x0_4 := X0.out _ hB 4 _ rfl; have x0_5 := X0.out _ hB 5 _ rfl; have x0_6 := X0.out _ hB 6 _ rfl; have x1_0 := X1.out _ hB 0 _ rfl; have x1_1 := X1.out _ hB 1 _ rfl; have x1_2 := X1.out _ hB 2 _ rfl; have x1_3 := X1.out _ hB 3 _ rfl; have x1_4 := X1.out _ hB 4 _ rfl; have x1_5 := X1.out _ hB 5 _ rfl; have x1_6 := X1.out _ hB 6 _ rfl; clear hb)
        go_ret
        exact ⟨rfl, next_below HB0.out (by assumption)⟩
      | false =>
        have h3' := h3 rfl rfl
        clear h3
        go_wp2_with first | (go_at_call 13; (first | (with_reducible refine (KG.out _ (by assumption)).mono ?_) | (with_reducible refine (KH.out _ (by assumption)).mono ?_)); rintro e w1 ⟨rfl, hb⟩; have hB := next_below (by assumption) hb; have x0_0 := X0.out _ hB 0 _ rfl; have x0_1 := X0.out _ hB 1 _ rfl; have x0_2 := X0.out _ hB 2 _ rfl; have x0_3 := X0.out _ hB 3 _ rfl; have x0_4 := X0.out _ hB 4 _ rfl; have x0_5 := X0.out _ hB 5 _ rfl; have x0_6 := X0.out _ hB 6 _ rfl; have x1_0 := X1.out _ hB 0 _ rfl; have x1_1 := X1.out _ hB 1 _ rfl; have x1_2 := X1.out _ hB 2 _ rfl; have x1_3 := X1.out _ hB 3 _ rfl; have x1_4 := X1.out _ hB 4 _ rfl; have x1_5 := X1.out _ hB 5 _ rfl; have x1_6 := X1.out _ hB 6 _ rfl; clear hb) | (go_at_call 8; (with_reducible refine (KA.out _ (by assumption)).mono ?_); rintro e w1 ⟨rfl, hb⟩; have hB := next_below (by assumption) hb; have x0_0 := X0.out _ hB 0 _ rfl; have x0_1 := X0.out _ hB 1 _ rfl; have x0_2 := X0.out _ hB 2 _ rfl; have x0_3 := X0.out _ hB 3 _ rfl; have x0_4 := X0.out _ hB 4 _ rfl; have x0_5 := X0.out _ hB 5 _ rfl; have x0_6 := X0.out _ hB 6 _ rfl; have x1_0 := X1.out _ hB 0 _ rfl; have x1_1 := X1.out _ hB 1 _ rfl; have x1_2 := X1.out _ hB 2 _ rfl; have x1_3 := X1.out _ hB 3 _ rfl; have x1_4 := X1.out _ hB 4 _ rfl; have x1_5 := X1.out _ hB 5 _ rfl; have x1_6 := X1.out _ hB 6 _ rfl; clear hb)
        go_ret
        exact ⟨rfl, next_below HB0.out (by assumption)⟩
  have hg0 : gt = false := by
    cases gt with
    | true => exact absurd (.inl rfl) hbig
    | false => rfl
  have hg1 : gu = false := by
    cases gu with
    | true => exact absurd (.inr (.inl rfl)) hbig
    | false => rfl
  have h3 : ¬ 200 < n5 := fun h => hbig (.inr (.inr h))
  rw [hg0] at hgt
  rw [hg1] at hgu
  have hn : (n1 ≤ 200 ∧ n2 ≤ 200) ∧ n3 ≤ 200 ∧ n4 ≤ 200 := by
    have h := hgt.symm
    have h' := hgu.symm
    simp at h h'
    exact ⟨h, h'⟩
  have s5 : SlAt w w.heap.size A5 n5 c5 b := ⟨r5, by omega, k5⟩
  have hr : RgIs w ⟨oa, ⟨ia1, pa1, l1⟩, ⟨ia2, pa2, l2⟩⟩ #[.int .u8 oa, .bool ia1, .bool pa1, .slice A1 n1 c1, .bool ia2, .bool pa2, .slice A2 n2 c2] := ⟨_, _, _, _, _, _, rfl, hor, ⟨r1, by omega, k1⟩, ⟨r2, by omega, k2⟩⟩
  have hs : RgIs w ⟨ob, ⟨ib1, pb1, l3⟩, ⟨ib2, pb2, l4⟩⟩ #[.int .u8 ob, .bool ib1, .bool pb1, .slice A3 n3 c3, .bool ib2, .bool pb2, .slice A4 n4 c4] := ⟨_, _, _, _, _, _, rfl, hos, ⟨r3, by omega, k3⟩, ⟨r4, by omega, k4⟩⟩
  subst hg0 hg1
  have HS5 := Lib.hid s5
  have HRR := Lib.hid hr
  have HSS := Lib.hid hs
  clear hgt hgu hbig hn r1 r2 r3 r4 r5 s5 hr hs hQ
  obtain ⟨win, hwin⟩ : ∃ i, i = withinR ordC ⟨oa, ⟨ia1, pa1, l1⟩, ⟨ia2, pa2, l2⟩⟩ ⟨ob, ⟨ib1, pb1, l3⟩, ⟨ib2, pb2, l4⟩⟩ := ⟨_, rfl⟩
  obtain ⟨ws, hws⟩ : ∃ i, i = withinR ordC ⟨oa, ⟨ia1, pa1, l1⟩, ⟨ia2, pa2, l2⟩⟩ ⟨oa, ⟨ia1, pa1, l1⟩, ⟨ia2, pa2, l2⟩⟩ := ⟨_, rfl⟩
  obtain ⟨ir, hir⟩ : ∃ i, i = inR ordC ⟨oa, ⟨ia1, pa1, l1⟩, ⟨ia2, pa2, l2⟩⟩ b := ⟨_, rfl⟩
  obtain ⟨is, his⟩ : ∃ i, i = inR ordC ⟨ob, ⟨ib1, pb1, l3⟩, ⟨ib2, pb2, l4⟩⟩ b := ⟨_, rfl⟩
  obtain ⟨em, hem⟩ : ∃ i, i = emptyR ordC ⟨oa, ⟨ia1, pa1, l1⟩, ⟨ia2, pa2, l2⟩⟩ := ⟨_, rfl⟩
  have hri : win = true → ir = true → is = true := fun h h' => by rw [his]; exact within_in ordC_lawful b (by rw [← hwin]; exact h) (by rw [← hir]; exact h')
  have K1 : Hid (∀ W, Below w0.heap.size w0 W → Calls Tryd.prog 23 #[.agg #[.int .u8 oa, .bool ia1, .bool pa1, .slice A1 n1 c1, .bool ia2, .bool pa2, .slice A2 n2 c2], .agg #[.int .u8 ob, .bool ib1, .bool pb1, .slice A3 n3 c3, .bool ib2, .bool pb2, .slice A4 n4 c4]] W fun e w' => e = .returned (.bool win) ∧ Below W.heap.size W w') := by
    intro W hW
    have hW' := next_below HB0.out hW
    rw [hwin]; exact H.within (H.old HQ.out hW') (HRR.out.next hW') (HSS.out.next hW')
  have K2 : Hid (∀ W, Below w0.heap.size w0 W → Calls Tryd.prog 23 #[.agg #[.int .u8 oa, .bool ia1, .bool pa1, .slice A1 n1 c1, .bool ia2, .bool pa2, .slice A2 n2 c2], .agg #[.int .u8 oa, .bool ia1, .bool pa1, .slice A1 n1 c1, .bool ia2, .bool pa2, .slice A2 n2 c2]] W fun e w' => e = .returned (.bool ws) ∧ Below W.heap.size W w') := by
    intro W hW
    have hW' := next_below HB0.out hW
    rw [hws]; exact H.within (H.old HQ.out hW') (HRR.out.next hW') (HRR.out.next hW')
  have K3 : Hid (∀ W, Below w0.heap.size w0 W → Calls Tryd.prog 16 #[.agg #[.int .u8 oa, .bool ia1, .bool pa1, .slice A1 n1 c1, .bool ia2, .bool pa2, .slice A2 n2 c2], .slice A5 n5 c5] W fun e w' => e = .returned (.bool ir) ∧ Below W.heap.size W w') := by
    intro W hW
    have hW' := next_below HB0.out hW
    rw [hir]; exact H.in_ (H.old HQ.out hW') (HRR.out.next hW') (HS5.out.next hW')
  have K4 : Hid (∀ W, Below w0.heap.size w0 W → Calls Tryd.prog 16 #[.agg #[.int .u8 ob, .bool ib1, .bool pb1, .slice A3 n3 c3, .bool ib2, .bool pb2, .slice A4 n4 c4], .slice A5 n5 c5] W fun e w' => e = .returned (.bool is) ∧ Below W.heap.size W w') := by
    intro W hW
    have hW' := next_below HB0.out hW
    rw [his]; exact H.in_ (H.old HQ.out hW') (HSS.out.next hW') (HS5.out.next hW')
  have K7 : Hid (∀ W, Below w0.heap.size w0 W → Calls Tryd.prog 19 #[.agg #[.int .u8 oa, .bool ia1, .bool pa1, .slice A1 n1 c1, .bool ia2, .bool pa2, .slice A2 n2 c2]] W fun e w' => e = .returned (.bool em) ∧ Below W.heap.size W w') := by
    intro W hW
    have hW' := next_below HB0.out hW
    rw [hem]; exact rEmpty (HRR.out.next hW')
  obtain ⟨hmt, hmte⟩ : ∃ m, m = (meetR ordC ⟨oa, ⟨ia1, pa1, l1⟩, ⟨ia2, pa2, l2⟩⟩ ⟨ob, ⟨ib1, pb1, l3⟩, ⟨ib2, pb2, l4⟩⟩) := ⟨_, rfl⟩
  have hw1 : win = (hmt.2 && (em || sameR hmt.1 ⟨oa, ⟨ia1, pa1, l1⟩, ⟨ia2, pa2, l2⟩⟩)) := by rw [hwin, hem, hmte]; rfl
  have hw2 : hmt.2 = true → ws = true := fun h => by
    rw [hmte] at h
    rw [hws]; exact within_self ordC_lawful (meet_ok h).1
  clear hwin hws hir his hem
  have HRI := Lib.hid hri
  have HW1 := Lib.hid hw1
  have HW2 := Lib.hid hw2
  have HMT := Lib.hid hmte
  clear hri hw1 hw2 hmte
  go_enter Tryd.func6, Tryd.ntmps6
  go_upto_region 1 with fail
  rw [← hw0]
  clear hw0
  have x0_0 := X0.out _ HR 0 _ rfl
  have x0_1 := X0.out _ HR 1 _ rfl
  have x0_2 := X0.out _ HR 2 _ rfl
  have x0_3 := X0.out _ HR 3 _ rfl
  have x0_4 := X0.out _ HR 4 _ rfl
  have x0_5 := X0.out _ HR 5 _ rfl
  have x0_6 := X0.out _ HR 6 _ rfl
  have x1_0 := X1.out _ HR 0 _ rfl
  have x1_1 := X1.out _ HR 1 _ rfl
  have x1_2 := X1.out _ HR 2 _ rfl
  have x1_3 := X1.out _ HR 3 _ rfl
  have x1_4 := X1.out _ HR 4 _ rfl
  have x1_5 := X1.out _ HR 5 _ rfl
  have x1_6 := X1.out _ HR 6 _ rfl
  go_upto_region 3 with (go_at_call 13; (first | (with_reducible refine (KG.out _ (by assumption)).mono ?_) | (with_reducible refine (KH.out _ (by assumption)).mono ?_)); rintro e w1 ⟨rfl, hb⟩; have hB := next_below (by assumption) hb; have x0_0 := X0.out _ hB 0 _ rfl; have x0_1 := X0.out _ hB 1 _ rfl; have x0_2 := X0.out _ hB 2 _ rfl; have x0_3 := X0.out _ hB 3 _ rfl; have x0_4 := X0.out _ hB 4 _ rfl; have x0_5 := X0.out _ hB 5 _ rfl; have x0_6 := X0.out _ hB 6 _ rfl; have x1_0 := X1.out _ hB 0 _ rfl; have x1_1 := X1.out _ hB 1 _ rfl; have x1_2 := X1.out _ hB 2 _ rfl; have x1_3 := X1.out _ hB 3 _ rfl; have x1_4 := X1.out _ hB 4 _ rfl; have x1_5 := X1.out _ hB 5 _ rfl; have x1_6 := X1.out _ hB 6 _ rfl; clear hb)
  clear KG KH
  go_upto_region 4 with (go_at_call 23; (with_reducible refine (K1.out _ (by assumption)).mono ?_); rintro e w1 ⟨rfl, hb⟩; have hB := next_below (by assumption) hb; have x0_0 := X0.out _ hB 0 _ rfl; have x0_1 := X0.out _ hB 1 _ rfl; have x0_2 := X0.out _ hB 2 _ rfl; have x0_3 := X0.out _ hB 3 _ rfl; have x0_4 := X0.out _ hB 4 _ rfl; have x0_5 := X0.out _ hB 5 _ rfl; have x0_6 := X0.out _ hB 6 _ rfl; have x1_0 := X1.out _ hB 0 _ rfl; have x1_1 := X1.out _ hB 1 _ rfl; have x1_2 := X1.out _ hB 2 _ rfl; have x1_3 := X1.out _ hB 3 _ rfl; have x1_4 := X1.out _ hB 4 _ rfl; have x1_5 := X1.out _ hB 5 _ rfl; have x1_6 := X1.out _ hB 6 _ rfl; clear hb)
  go_wp2_with fail
  refine (rMeet (HRR.out.next (next_below HB0.out hB)) (HSS.out.next (next_below HB0.out hB))).mono ?_
  rintro e v1 ⟨x, rfl, hin, hb⟩
  obtain ⟨Dx1, jx1, ex1, Dx2, jx2, ex2, rfl, hoz, hq1, hq2⟩ := hin
  obtain ⟨mx, hmx⟩ : ∃ m, m = (meetR ordC ⟨oa, ⟨ia1, pa1, l1⟩, ⟨ia2, pa2, l2⟩⟩ ⟨ob, ⟨ib1, pb1, l3⟩, ⟨ib2, pb2, l4⟩⟩).1 := ⟨_, rfl⟩
  rw [← hmx] at hq1 hq2 hoz ⊢
  obtain ⟨ox, ⟨ix1, px1, lx1⟩, ⟨ix2, px2, lx2⟩⟩ := mx
  have hB' := next_below hB hb
  clear hb x0_0 x0_1 x0_2 x0_3 x0_4 x0_5 x0_6 x1_0 x1_1 x1_2 x1_3 x1_4 x1_5 x1_6 hB
  unfold rgC
  dsimp only at hoz hq1 hq2 ⊢
  go_upto_region 5 with (refine wpList_store_row rfl 31 (.tmp 8) (.tmp 30) rfl v1.heap.size _ rfl rfl 31 #[.int .u8 0, .bool false, .bool false, .slice none 0 0, .bool false, .bool false, .slice none 0 0] (Blk.new _ _ _) infoRg rfl (by simp [Value.oneCell']) ?_)
  obtain ⟨wx, hwx⟩ : ∃ w9, w9 = (v1.alloc (.cells #[.int .u8 0, .bool false, .bool false, .slice none 0 0, .bool false, .bool false, .slice none 0 0] 31)).setRow v1.heap.size #[.int .u8 ox, .bool ix1, .bool px1, .slice Dx1 jx1 ex1, .bool ix2, .bool px2, .slice Dx2 jx2 ex2] := ⟨_, rfl⟩
  have hbn : Below v1.heap.size v1 wx := by rw [hwx]; exact below_row ((Below.refl _ _).alloc (Nat.le_refl _) _) (Nat.le_refl _) _
  have hbx : Blk wx v1.heap.size 31 #[.int .u8 ox, .bool ix1, .bool px1, .slice Dx1 jx1 ex1, .bool ix2, .bool px2, .slice Dx2 jx2 ex2] := by rw [hwx]; exact (Blk.new _ _ _).row _
  rw [← hwx]
  have hB9 := next_below hB' hbn
  have HB9 := Lib.hid (next_below HB0.out hB9)
  have HMx : Hid (RgIs wx ⟨ox, ⟨ix1, px1, lx1⟩, ⟨ix2, px2, lx2⟩⟩ #[.int .u8 ox, .bool ix1, .bool px1, .slice Dx1 jx1 ex1, .bool ix2, .bool px2, .slice Dx2 jx2 ex2]) := ⟨_, _, _, _, _, _, rfl, hoz, hq1.next hbn, hq2.next hbn⟩
  have X2 : Hid (∀ W, Below wx.heap.size wx W → ∀ k u, (#[.int .u8 ox, .bool ix1, .bool px1, .slice Dx1 jx1 ex1, .bool ix2, .bool px2, .slice Dx2 jx2 ex2] : Array Value)[k]? = some u → W.cell? ⟨v1.heap.size, k, none⟩ = some u) := fun W hW k u hk => cell_below hW ((hbx.cell k).trans hk) hbx.lt
  have HEx := Lib.hid hmx
  generalize v1.heap.size = gx at *
  replace X0 := Lib.hid (fun W (hW : Below wx.heap.size wx W) => X0.out W (next_below hB9 hW))
  replace X1 := Lib.hid (fun W (hW : Below wx.heap.size wx W) => X1.out W (next_below hB9 hW))
  replace KA := Lib.hid (fun W (hW : Below wx.heap.size wx W) => KA.out W (next_below hB9 hW))
  replace K1 := Lib.hid (fun W (hW : Below wx.heap.size wx W) => K1.out W (next_below hB9 hW))
  replace K2 := Lib.hid (fun W (hW : Below wx.heap.size wx W) => K2.out W (next_below hB9 hW))
  replace K3 := Lib.hid (fun W (hW : Below wx.heap.size wx W) => K3.out W (next_below hB9 hW))
  replace K4 := Lib.hid (fun W (hW : Below wx.heap.size wx W) => K4.out W (next_below hB9 hW))
  replace K7 := Lib.hid (fun W (hW : Below wx.heap.size wx W) => K7.out W (next_below hB9 hW))
  replace HB0 := HB9
  clear hB9 HB9 hB' hbn hbx hoz hq1 hq2 hwx hmx
  have hB : Below wx.heap.size wx wx := Below.refl _ _
  have x0_0 := X0.out _ hB 0 _ rfl
  have x0_1 := X0.out _ hB 1 _ rfl
  have x0_2 := X0.out _ hB 2 _ rfl
  have x0_3 := X0.out _ hB 3 _ rfl
  have x0_4 := X0.out _ hB 4 _ rfl
  have x0_5 := X0.out _ hB 5 _ rfl
  have x0_6 := X0.out _ hB 6 _ rfl
  have x1_0 := X1.out _ hB 0 _ rfl
  have x1_1 := X1.out _ hB 1 _ rfl
  have x1_2 := X1.out _ hB 2 _ rfl
  have x1_3 := X1.out _ hB 3 _ rfl
  have x1_4 := X1.out _ hB 4 _ rfl
  have x1_5 := X1.out _ hB 5 _ rfl
  have x1_6 := X1.out _ hB 6 _ rfl
  have x2_0 := X2.out _ hB 0 _ rfl
  have x2_1 := X2.out _ hB 1 _ rfl
  have x2_2 := X2.out _ hB 2 _ rfl
  have x2_3 := X2.out _ hB 3 _ rfl
  have x2_4 := X2.out _ hB 4 _ rfl
  have x2_5 := X2.out _ hB 5 _ rfl
  have x2_6 := X2.out _ hB 6 _ rfl
  obtain ⟨sm, hsm⟩ : ∃ i, i = sameR ⟨ox, ⟨ix1, px1, lx1⟩, ⟨ix2, px2, lx2⟩⟩ ⟨oa, ⟨ia1, pa1, l1⟩, ⟨ia2, pa2, l2⟩⟩ := ⟨_, rfl⟩
  have hw1 := HW1.out
  have hw2 := HW2.out
  rw [show hmt.1 = ⟨ox, ⟨ix1, px1, lx1⟩, ⟨ix2, px2, lx2⟩⟩ by rw [HMT.out]; exact HEx.out.symm, ← hsm] at hw1
  rw [HMT.out] at hw1 hw2
  generalize (meetR ordC ⟨oa, ⟨ia1, pa1, l1⟩, ⟨ia2, pa2, l2⟩⟩ ⟨ob, ⟨ib1, pb1, l3⟩, ⟨ib2, pb2, l4⟩⟩).2 = ok at *
  have K5 : Hid (∀ W, Below wx.heap.size wx W → Calls Tryd.prog 22 #[.agg #[.int .u8 ox, .bool ix1, .bool px1, .slice Dx1 jx1 ex1, .bool ix2, .bool px2, .slice Dx2 jx2 ex2], .agg #[.int .u8 oa, .bool ia1, .bool pa1, .slice A1 n1 c1, .bool ia2, .bool pa2, .slice A2 n2 c2]] W fun e w' => e = .returned (.bool sm) ∧ Below W.heap.size W w') := by
    intro W hW
    have hW' := next_below HB0.out hW
    rw [hsm]; exact rSame (HMx.out.next hW) (HRR.out.next hW')
  clear hsm HEx HW1 HW2 HMT HMx
  subst hw1
  cases ok with
  | false =>
    clear hw2
    go_wp2_with first | (go_at_call 23; (with_reducible refine (K2.out _ (by assumption)).mono ?_); rintro e w1 ⟨rfl, hb⟩; have hB := next_below (by assumption) hb; have x0_0 := X0.out _ hB 0 _ rfl; have x0_1 := X0.out _ hB 1 _ rfl; have x0_2 := X0.out _ hB 2 _ rfl; have x0_3 := X0.out _ hB 3 _ rfl; have x0_4 := X0.out _ hB 4 _ rfl; have x0_5 := X0.out _ hB 5 _ rfl; have x0_6 := X0.out _ hB 6 _ rfl; have x1_0 := X1.out _ hB 0 _ rfl; have x1_1 := X1.out _ hB 1 _ rfl; have x1_2 := X1.out _ hB 2 _ rfl; have x1_3 := X1.out _ hB 3 _ rfl; have x1_4 := X1.out _ hB 4 _ rfl; have x1_5 := X1.out _ hB 5 _ rfl; have x1_6 := X1.out _ hB 6 _ rfl; have x2_0 := X2.out _ hB 0 _ rfl; have x2_1 := X2.out _ hB 1 _ rfl; have x2_2 := X2.out _ hB 2 _ rfl; have x2_3 := X2.out _ hB 3 _ rfl; have x2_4 := X2.out _ hB 4 _ rfl; have x2_5 := X2.out _ hB 5 _ rfl; have x2_6 := X2.out _ hB 6 _ rfl; clear hb) | (go_at_call 16; (first | (with_reducible refine (K3.out _ (by assumption)).mono ?_) | (with_reducible refine (K4.out _ (by assumption)).mono ?_)); rintro e w1 ⟨rfl, hb⟩; have hB := next_below (by assumption) hb; have x0_0 := X0.out _ hB 0 _ rfl; have x0_1 := X0.out _ hB 1 _ rfl; have x0_2 := X0.out _ hB 2 _ rfl; have x0_3 := X0.out _ hB 3 _ rfl; have x0_4 := X0.out _ hB 4 _ rfl; have x0_5 := X0.out _ hB 5 _ rfl; have x0_6 := X0.out _ hB 6 _ rfl; have x1_0 := X1.out _ hB 0 _ rfl; have x1_1 := X1.out _ hB 1 _ rfl; have x1_2 := X1.out _ hB 2 _ rfl; have x1_3 := X1.out _ hB 3 _ rfl; have x1_4 := X1.out _ hB 4 _ rfl; have x1_5 := X1.out _ hB 5 _ rfl; have x1_6 := X1.out _ hB 6 _ rfl; have x2_0 := X2.out _ hB 0 _ rfl; have x2_1 := X2.out _ hB 1 _ rfl; have x2_2 := X2.out _ hB 2 _ rfl; have x2_3 := X2.out _ hB 3 _ rfl; have x2_4 := X2.out _ hB 4 _ rfl; have x2_5 := X2.out _ hB 5 _ rfl; have x2_6 := X2.out _ hB 6 _ rfl; clear hb) | (go_at_call 19; (with_reducible refine (K7.out _ (by assumption)).mono ?_); rintro e w1 ⟨rfl, hb⟩; have hB := next_below (by assumption) hb; have x0_0 := X0.out _ hB 0 _ rfl; have x0_1 := X0.out _ hB 1 _ rfl; have x0_2 := X0.out _ hB 2 _ rfl; have x0_3 := X0.out _ hB 3 _ rfl; have x0_4 := X0.out _ hB 4 _ rfl; have x0_5 := X0.out _ hB 5 _ rfl; have x0_6 := X0.out _ hB 6 _ rfl; have x1_0 := X1.out _ hB 0 _ rfl; have x1_1 := X1.out _ hB 1 _ rfl; have x1_2 := X1.out _ hB 2 _ rfl; have x1_3 := X1.out _ hB 3 _ rfl; have x1_4 := X1.out _ hB 4 _ rfl; have x1_5 := X1.out _ hB 5 _ rfl; have x1_6 := X1.out _ hB 6 _ rfl; have x2_0 := X2.out _ hB 0 _ rfl; have x2_1 := X2.out _ hB 1 _ rfl; have x2_2 := X2.out _ hB 2 _ rfl; have x2_3 := X2.out _ hB 3 _ rfl; have x2_4 := X2.out _ hB 4 _ rfl; have x2_5 := X2.out _ hB 5 _ rfl; have x2_6 := X2.out _ hB 6 _ rfl; clear hb) | (go_at_call 22; (with_reducible refine (K5.out _ (by assumption)).mono ?_); rintro e w1 ⟨rfl, hb⟩; have hB := next_below (by assumption) hb; have x0_0 := X0.out _ hB 0 _ rfl; have x0_1 := X0.out _ hB 1 _ rfl; have x0_2 := X0.out _ hB 2 _ rfl; have x0_3 := X0.out _ hB 3 _ rfl; have x0_4 := X0.out _ hB 4 _ rfl; have x0_5 := X0.out _ hB 5 _ rfl; have x0_6 := X0.out _ hB 6 _ rfl; have x1_0 := X1.out _ hB 0 _ rfl; have x1_1 := X1.out _ hB 1 _ rfl; have x1_2 := X1.out _ hB 2 _ rfl; have x1_3 := X1.out _ hB 3 _ rfl; have x1_4 := X1.out _ hB 4 _ rfl; have x1_5 := X1.out _ hB 5 _ rfl; have x1_6 := X1.out _ hB 6 _ rfl; have x2_0 := X2.out _ hB 0 _ rfl; have x2_1 := X2.out _ hB 1 _ rfl; have x2_2 := X2.out _ hB 2 _ rfl; have x2_3 := X2.out _ hB 3 _ rfl; have x2_4 := X2.out _ hB 4 _ rfl; have x2_5 := X2.out _ hB 5 _ rfl; have x2_6 := X2.out _ hB 6 _ rfl; clear hb) | (go_at_call 8; (with_reducible refine (KA.out _ (by assumption)).mono ?_); rintro e w1 ⟨rfl, hb⟩; have hB := next_below (by assumption) hb; have x0_0 := X0.out _ hB 0 _ rfl; have x0_1 := X0.out _ hB 1 _ rfl; have x0_2 := X0.out _ hB 2 _ rfl; have x0_3 := X0.out _ hB 3 _ rfl; have x0_4 := X0.out _ hB 4 _ rfl; have x0_5 := X0.out _ hB 5 _ rfl; have x0_6 := X0.out _ hB 6 _ rfl; have x1_0 := X1.out _ hB 0 _ rfl; have x1_1 := X1.out _ hB 1 _ rfl; have x1_2 := X1.out _ hB 2 _ rfl; have x1_3 := X1.out _ hB 3 _ rfl; have x1_4 := X1.out _ hB 4 _ rfl; have x1_5 := X1.out _ hB 5 _ rfl; have x1_6 := X1.out _ hB 6 _ rfl; have x2_0 := X2.out _ hB 0 _ rfl; have x2_1 := X2.out _ hB 1 _ rfl; have x2_2 := X2.out _ hB 2 _ rfl; have x2_3 := X2.out _ hB 3 _ rfl; have x2_4 := X2.out _ hB 4 _ rfl; have x2_5 := X2.out _ hB 5 _ rfl; have x2_6 := X2.out _ hB 6 _ rfl; clear hb)
    go_ret
    exact ⟨rfl, next_below HB0.out (by assumption)⟩
  | true =>
    obtain rfl := hw2 rfl
    clear hw2
    cases em with
    | true =>
      cases ir with
      | false =>
        clear HRI
        go_wp2_with first | (go_at_call 23; (with_reducible refine (K2.out _ (by assumption)).mono ?_); rintro e w1 ⟨rfl, hb⟩; have hB := next_below (by assumption) hb; have x0_0 := X0.out _ hB 0 _ rfl; have x0_1 := X0.out _ hB 1 _ rfl; have x0_2 := X0.out _ hB 2 _ rfl; have x0_3 := X0.out _ hB 3 _ rfl; have x0_4 := X0.out _ hB 4 _ rfl; have x0_5 := X0.out _ hB 5 _ rfl; have x0_6 := X0.out _ hB 6 _ rfl; have x1_0 := X1.out _ hB 0 _ rfl; have x1_1 := X1.out _ hB 1 _ rfl; have x1_2 := X1.out _ hB 2 _ rfl; have x1_3 := X1.out _ hB 3 _ rfl; have x1_4 := X1.out _ hB 4 _ rfl; have x1_5 := X1.out _ hB 5 _ rfl; have x1_6 := X1.out _ hB 6 _ rfl; have x2_0 := X2.out _ hB 0 _ rfl; have x2_1 := X2.out _ hB 1 _ rfl; have x2_2 := X2.out _ hB 2 _ rfl; have x2_3 := X2.out _ hB 3 _ rfl; have x2_4 := X2.out _ hB 4 _ rfl; have x2_5 := X2.out _ hB 5 _ rfl; have x2_6 := X2.out _ hB 6 _ rfl; clear hb) | (go_at_call 16; (first | (with_reducible refine (K3.out _ (by assumption)).mono ?_) | (with_reducible refine (K4.out _ (by assumption)).mono ?_)); rintro e w1 ⟨rfl, hb⟩; have hB := next_below (by assumption) hb; have x0_0 := X0.out _ hB 0 _ rfl; have x0_1 := X0.out _ hB 1 _ rfl; have x0_2 := X0.out _ hB 2 _ rfl; have x0_3 := X0.out _ hB 3 _ rfl; have x0_4 := X0.out _ hB 4 _ rfl; have x0_5 := X0.out _ hB 5 _ rfl; have x0_6 := X0.out _ hB 6 _ rfl; have x1_0 := X1.out _ hB 0 _ rfl; have x1_1 := X1.out _ hB 1 _ rfl; have x1_2 := X1.out _ hB 2 _ rfl; have x1_3 := X1.out _ hB 3 _ rfl; have x1_4 := X1.out _ hB 4 _ rfl; have x1_5 := X1.out _ hB 5 _ rfl; have x1_6 := X1.out _ hB 6 _ rfl; have x2_0 := X2.out _ hB 0 _ rfl; have x2_1 := X2.out _ hB 1 _ rfl; have x2_2 := X2.out _ hB 2 _ rfl; have x2_3 := X2.out _ hB 3 _ rfl; have x2_4 := X2.out _ hB 4 _ rfl; have x2_5 := X2.out _ hB 5 _ rfl; have x2_6 := X2.out _ hB 6 _ rfl; clear hb) | (go_at_call 19; (with_reducible refine (K7.out _ (by assumption)).mono ?_); rintro e w1 ⟨rfl, hb⟩; have hB := next_below (by assumption) hb; have x0_0 := X0.out _ hB 0 _ rfl; have x0_1 := X0.out _ hB 1 _ rfl; have x0_2 := X0.out _ hB 2 _ rfl; have x0_3 := X0.out _ hB 3 _ rfl; have x0_4 := X0.out _ hB 4 _ rfl; have x0_5 := X0.out _ hB 5 _ rfl; have x0_6 := X0.out _ hB 6 _ rfl; have x1_0 := X1.out _ hB 0 _ rfl; have x1_1 := X1.out _ hB 1 _ rfl; have x1_2 := X1.out _ hB 2 _ rfl; have x1_3 := X1.out _ hB 3 _ rfl; have x1_4 := X1.out _ hB 4 _ rfl; have x1_5 := X1.out _ hB 5 _ rfl; have x1_6 := X1.out _ hB 6 _ rfl; have x2_0 := X2.out _ hB 0 _ rfl; have x2_1 := X2.out _ hB 1 _ rfl; have x2_2 := X2.out _ hB 2 _ rfl; have x2_3 := X2.out _ hB 3 _ rfl; have x2_4 := X2.out _ hB 4 _ rfl; have x2_5 := X2.out _ hB 5 _ rfl; have x2_6 := X2.out _ hB 6 _ rfl; clear hb) | (go_at_call 22; (with_reducible refine (K5.out _ (by assumption)).mono ?_); rintro e w1 ⟨rfl, hb⟩; have hB := next_below (by assumption) hb; have x0_0 := X0.out _ hB 0 _ rfl; have x0_1 := X0.out _ hB 1 _ rfl; have x0_2 := X0.out _ hB 2 _ rfl; have x0_3 := X0.out _ hB 3 _ rfl; have x0_4 := X0.out _ hB 4 _ rfl; have x0_5 := X0.out _ hB 5 _ rfl; have x0_6 := X0.out _ hB 6 _ rfl; have x1_0 := X1.out _ hB 0 _ rfl; have x1_1 := X1.out _ hB 1 _ rfl; have x1_2 := X1.out _ hB 2 _ rfl; have x1_3 := X1.out _ hB 3 _ rfl; have x1_4 := X1.out _ hB 4 _ rfl; have x1_5 := X1.out _ hB 5 _ rfl; have x1_6 := X1.out _ hB 6 _ rfl; have x2_0 := X2.out _ hB 0 _ rfl; have x2_1 := X2.out _ hB 1 _ rfl; have x2_2 := X2.out _ hB 2 _ rfl; have x2_3 := X2.out _ hB 3 _ rfl; have x2_4 := X2.out _ hB 4 _ rfl; have x2_5 := X2.out _ hB 5 _ rfl; have x2_6 := X2.out _ hB 6 _ rfl; clear hb) | (go_at_call 8; (with_reducible refine (KA.out _ (by assumption)).mono ?_); rintro e w1 ⟨rfl, hb⟩; have hB := next_below (by assumption) hb; have x0_0 := X0.out _ hB 0 _ rfl; have x0_1 := X0.out _ hB 1 _ rfl; have x0_2 := X0.out _ hB 2 _ rfl; have x0_3 := X0.out _ hB 3 _ rfl; have x0_4 := X0.out _ hB 4 _ rfl; have x0_5 := X0.out _ hB 5 _ rfl; have x0_6 := X0.out _ hB 6 _ rfl; have x1_0 := X1.out _ hB 0 _ rfl; have x1_1 := X1.out _ hB 1 _ rfl; have x1_2 := X1.out _ hB 2 _ rfl; have x1_3 := X1.out _ hB 3 _ rfl; have x1_4 := X1.out _ hB 4 _ rfl; have x1_5 := X1.out _ hB 5 _ rfl; have x1_6 := X1.out _ hB 6 _ rfl; have x2_0 := X2.out _ hB 0 _ rfl; have x2_1 := X2.out _ hB 1 _ rfl; have x2_2 := X2.out _ hB 2 _ rfl; have x2_3 := X2.out _ hB 3 _ rfl; have x2_4 := X2.out _ hB 4 _ rfl; have x2_5 := X2.out _ hB 5 _ rfl; have x2_6 := X2.out _ hB 6 _ rfl; clear hb)
        go_ret
        exact ⟨rfl, next_below HB0.out (by assumption)⟩
      | true =>
        obtain rfl := HRI.out rfl rfl
        clear HRI
        go_wp2_with first | (go_at_call 23; (with_reducible refine (K2.out _ (by assumption)).mono ?_); rintro e w1 ⟨rfl, hb⟩; have hB := next_below (by assumption) hb; have x0_0 := X0.out _ hB 0 _ rfl; have x0_1 := X0.out _ hB 1 _ rfl; have x0_2 := X0.out _ hB 2 _ rfl; have x0_3 := X0.out _ hB 3 _ rfl; have x0_4 := X0.out _ hB 4 _ rfl; have x0_5 := X0.out _ hB 5 _ rfl; have x0_6 := X0.out _ hB 6 _ rfl; have x1_0 := X1.out _ hB 0 _ rfl; have x1_1 := X1.out _ hB 1 _ rfl; have x1_2 := X1.out _ hB 2 _ rfl; have x1_3 := X1.out _ hB 3 _ rfl; have x1_4 := X1.out _ hB 4 _ rfl; have x1_5 := X1.out _ hB 5 _ rfl; have x1_6 := X1.out _ hB 6 _ rfl; have x2_0 := X2.out _ hB 0 _ rfl; have x2_1 := X2.out _ hB 1 _ rfl; have x2_2 := X2.out _ hB 2 _ rfl; have x2_3 := X2.out _ hB 3 _ rfl; have x2_4 := X2.out _ hB 4 _ rfl; have x2_5 := X2.out _ hB 5 _ rfl; have x2_6 := X2.out _ hB 6 _ rfl; clear hb) | (go_at_call 16; (first | (with_reducible refine (K3.out _ (by assumption)).mono ?_) | (with_reducible refine (K4.out _ (by assumption)).mono ?_)); rintro e w1 ⟨rfl, hb⟩; have hB := next_below (by assumption) hb; have x0_0 := X0.out _ hB 0 _ rfl; have x0_1 := X0.out _ hB 1 _ rfl; have x0_2 := X0.out _ hB 2 _ rfl; have x0_3 := X0.out _ hB 3 _ rfl; have x0_4 := X0.out _ hB 4 _ rfl; have x0_5 := X0.out _ hB 5 _ rfl; have x0_6 := X0.out _ hB 6 _ rfl; have x1_0 := X1.out _ hB 0 _ rfl; have x1_1 := X1.out _ hB 1 _ rfl; have x1_2 := X1.out _ hB 2 _ rfl; have x1_3 := X1.out _ hB 3 _ rfl; have x1_4 := X1.out _ hB 4 _ rfl; have x1_5 := X1.out _ hB 5 _ rfl; have x1_6 := X1.out _ hB 6 _ rfl; have x2_0 := X2.out _ hB 0 _ rfl; have x2_1 := X2.out _ hB 1 _ rfl; have x2_2 := X2.out _ hB 2 _ rfl; have x2_3 := X2.out _ hB 3 _ rfl; have x2_4 := X2.out _ hB 4 _ rfl; have x2_5 := X2.out _ hB 5 _ rfl; have x2_6 := X2.out _ hB 6 _ rfl; clear hb) | (go_at_call 19; (with_reducible refine (K7.out _ (by assumption)).mono ?_); rintro e w1 ⟨rfl, hb⟩; have hB := next_below (by assumption) hb; have x0_0 := X0.out _ hB 0 _ rfl; have x0_1 := X0.out _ hB 1 _ rfl; have x0_2 := X0.out _ hB 2 _ rfl; have x0_3 := X0.out _ hB 3 _ rfl; have x0_4 := X0.out _ hB 4 _ rfl; have x0_5 := X0.out _ hB 5 _ rfl; have x0_6 := X0.out _ hB 6 _ rfl; have x1_0 := X1.out _ hB 0 _ rfl; have x1_1 := X1.out _ hB 1 _ rfl; have x1_2 := X1.out _ hB 2 _ rfl; have x1_3 := X1.out _ hB 3 _ rfl; have x1_4 := X1.out _ hB 4 _ rfl; have x1_5 := X1.out _ hB 5 _ rfl; have x1_6 := X1.out _ hB 6 _ rfl; have x2_0 := X2.out _ hB 0 _ rfl; have x2_1 := X2.out _ hB 1 _ rfl; have x2_2 := X2.out _ hB 2 _ rfl; have x2_3 := X2.out _ hB 3 _ rfl; have x2_4 := X2.out _ hB 4 _ rfl; have x2_5 := X2.out _ hB 5 _ rfl; have x2_6 := X2.out _ hB 6 _ rfl; clear hb) | (go_at_call 22; (with_reducible refine (K5.out _ (by assumption)).mono ?_); rintro e w1 ⟨rfl, hb⟩; have hB := next_below (by assumption) hb; have x0_0 := X0.out _ hB 0 _ rfl; have x0_1 := X0.out _ hB 1 _ rfl; have x0_2 := X0.out _ hB 2 _ rfl; have x0_3 := X0.out _ hB 3 _ rfl; have x0_4 := X0.out _ hB 4 _ rfl; have x0_5 := X0.out _ hB 5 _ rfl; have x0_6 := X0.out _ hB 6 _ rfl; have x1_0 := X1.out _ hB 0 _ rfl; have x1_1 := X1.out _ hB 1 _ rfl; have x1_2 := X1.out _ hB 2 _ rfl; have x1_3 := X1.out _ hB 3 _ rfl; have x1_4 := X1.out _ hB 4 _ rfl; have x1_5 := X1.out _ hB 5 _ rfl; have x1_6 := X1.out _ hB 6 _ rfl; have x2_0 := X2.out _ hB 0 _ rfl; have x2_1 := X2.out _ hB 1 _ rfl; have x2_2 := X2.out _ hB 2 _ rfl; have x2_3 := X2.out _ hB 3 _ rfl; have x2_4 := X2.out _ hB 4 _ rfl; have x2_5 := X2.out _ hB 5 _ rfl; have x2_6 := X2.out _ hB 6 _ rfl; clear hb) | (go_at_call 8; (with_reducible refine (KA.out _ (by assumption)).mono ?_); rintro e w1 ⟨rfl, hb⟩; have hB := next_below (by assumption) hb; have x0_0 := X0.out _ hB 0 _ rfl; have x0_1 := X0.out _ hB 1 _ rfl; have x0_2 := X0.out _ hB 2 _ rfl; have x0_3 := X0.out _ hB 3 _ rfl; have x0_4 := X0.out _ hB 4 _ rfl; have x0_5 := X0.out _ hB 5 _ rfl; have x0_6 := X0.out _ hB 6 _ rfl; have x1_0 := X1.out _ hB 0 _ rfl; have x1_1 := X1.out _ hB 1 _ rfl; have x1_2 := X1.out _ hB 2 _ rfl; have x1_3 := X1.out _ hB 3 _ rfl; have x1_4 := X1.out _ hB 4 _ rfl; have x1_5 := X1.out _ hB 5 _ rfl; have x1_6 := X1.out _ hB 6 _ rfl; have x2_0 := X2.out _ hB 0 _ rfl; have x2_1 := X2.out _ hB 1 _ rfl; have x2_2 := X2.out _ hB 2 _ rfl; have x2_3 := X2.out _ hB 3 _ rfl; have x2_4 := X2.out _ hB 4 _ rfl; have x2_5 := X2.out _ hB 5 _ rfl; have x2_6 := X2.out _ hB 6 _ rfl; clear hb)
        go_ret
        exact ⟨rfl, next_below HB0.out (by assumption)⟩
    | false =>
      cases sm with
      | false =>
        clear HRI
        go_wp2_with first | (go_at_call 23; (with_reducible refine (K2.out _ (by assumption)).mono ?_); rintro e w1 ⟨rfl, hb⟩; have hB := next_below (by assumption) hb; have x0_0 := X0.out _ hB 0 _ rfl; have x0_1 := X0.out _ hB 1 _ rfl; have x0_2 := X0.out _ hB 2 _ rfl; have x0_3 := X0.out _ hB 3 _ rfl; have x0_4 := X0.out _ hB 4 _ rfl; have x0_5 := X0.out _ hB 5 _ rfl; have x0_6 := X0.out _ hB 6 _ rfl; have x1_0 := X1.out _ hB 0 _ rfl; have x1_1 := X1.out _ hB 1 _ rfl; have x1_2 := X1.out _ hB 2 _ rfl; have x1_3 := X1.out _ hB 3 _ rfl; have x1_4 := X1.out _ hB 4 _ rfl; have x1_5 := X1.out _ hB 5 _ rfl; have x1_6 := X1.out _ hB 6 _ rfl; have x2_0 := X2.out _ hB 0 _ rfl; have x2_1 := X2.out _ hB 1 _ rfl; have x2_2 := X2.out _ hB 2 _ rfl; have x2_3 := X2.out _ hB 3 _ rfl; have x2_4 := X2.out _ hB 4 _ rfl; have x2_5 := X2.out _ hB 5 _ rfl; have x2_6 := X2.out _ hB 6 _ rfl; clear hb) | (go_at_call 16; (first | (with_reducible refine (K3.out _ (by assumption)).mono ?_) | (with_reducible refine (K4.out _ (by assumption)).mono ?_)); rintro e w1 ⟨rfl, hb⟩; have hB := next_below (by assumption) hb; have x0_0 := X0.out _ hB 0 _ rfl; have x0_1 := X0.out _ hB 1 _ rfl; have x0_2 := X0.out _ hB 2 _ rfl; have x0_3 := X0.out _ hB 3 _ rfl; have x0_4 := X0.out _ hB 4 _ rfl; have x0_5 := X0.out _ hB 5 _ rfl; have x0_6 := X0.out _ hB 6 _ rfl; have x1_0 := X1.out _ hB 0 _ rfl; have x1_1 := X1.out _ hB 1 _ rfl; have x1_2 := X1.out _ hB 2 _ rfl; have x1_3 := X1.out _ hB 3 _ rfl; have x1_4 := X1.out _ hB 4 _ rfl; have x1_5 := X1.out _ hB 5 _ rfl; have x1_6 := X1.out _ hB 6 _ rfl; have x2_0 := X2.out _ hB 0 _ rfl; have x2_1 := X2.out _ hB 1 _ rfl; have x2_2 := X2.out _ hB 2 _ rfl; have x2_3 := X2.out _ hB 3 _ rfl; have x2_4 := X2.out _ hB 4 _ rfl; have x2_5 := X2.out _ hB 5 _ rfl; have x2_6 := X2.out _ hB 6 _ rfl; clear hb) | (go_at_call 19; (with_reducible refine (K7.out _ (by assumption)).mono ?_); rintro e w1 ⟨rfl, hb⟩; have hB := next_below (by assumption) hb; have x0_0 := X0.out _ hB 0 _ rfl; have x0_1 := X0.out _ hB 1 _ rfl; have x0_2 := X0.out _ hB 2 _ rfl; have x0_3 := X0.out _ hB 3 _ rfl; have x0_4 := X0.out _ hB 4 _ rfl; have x0_5 := X0.out _ hB 5 _ rfl; have x0_6 := X0.out _ hB 6 _ rfl; have x1_0 := X1.out _ hB 0 _ rfl; have x1_1 := X1.out _ hB 1 _ rfl; have x1_2 := X1.out _ hB 2 _ rfl; have x1_3 := X1.out _ hB 3 _ rfl; have x1_4 := X1.out _ hB 4 _ rfl; have x1_5 := X1.out _ hB 5 _ rfl; have x1_6 := X1.out _ hB 6 _ rfl; have x2_0 := X2.out _ hB 0 _ rfl; have x2_1 := X2.out _ hB 1 _ rfl; have x2_2 := X2.out _ hB 2 _ rfl; have x2_3 := X2.out _ hB 3 _ rfl; have x2_4 := X2.out _ hB 4 _ rfl; have x2_5 := X2.out _ hB 5 _ rfl; have x2_6 := X2.out _ hB 6 _ rfl; clear hb) | (go_at_call 22; (with_reducible refine (K5.out _ (by assumption)).mono ?_); rintro e w1 ⟨rfl, hb⟩; have hB := next_below (by assumption) hb; have x0_0 := X0.out _ hB 0 _ rfl; have x0_1 := X0.out _ hB 1 _ rfl; have x0_2 := X0.out _ hB 2 _ rfl; have x0_3 := X0.out _ hB 3 _ rfl; have x0_4 := X0.out _ hB 4 _ rfl; have x0_5 := X0.out _ hB 5 _ rfl; have x0_6 := X0.out _ hB 6 _ rfl; have x1_0 := X1.out _ hB 0 _ rfl; have x1_1 := X1.out _ hB 1 _ rfl; have x1_2 := X1.out _ hB 2 _ rfl; have x1_3 := X1.out _ hB 3 _ rfl; have x1_4 := X1.out _ hB 4 _ rfl; have x1_5 := X1.out _ hB 5 _ rfl; have x1_6 := X1.out _ hB 6 _ rfl; have x2_0 := X2.out _ hB 0 _ rfl; have x2_1 := X2.out _ hB 1 _ rfl; have x2_2 := X2.out _ hB 2 _ rfl; have x2_3 := X2.out _ hB 3 _ rfl; have x2_4 := X2.out _ hB 4 _ rfl; have x2_5 := X2.out _ hB 5 _ rfl; have x2_6 := X2.out _ hB 6 _ rfl; clear hb) | (go_at_call 8; (with_reducible refine (KA.out _ (by assumption)).mono ?_); rintro e w1 ⟨rfl, hb⟩; have hB := next_below (by assumption) hb; have x0_0 := X0.out _ hB 0 _ rfl; have x0_1 := X0.out _ hB 1 _ rfl; have x0_2 := X0.out _ hB 2 _ rfl; have x0_3 := X0.out _ hB 3 _ rfl; have x0_4 := X0.out _ hB 4 _ rfl; have x0_5 := X0.out _ hB 5 _ rfl; have x0_6 := X0.out _ hB 6 _ rfl; have x1_0 := X1.out _ hB 0 _ rfl; have x1_1 := X1.out _ hB 1 _ rfl; have x1_2 := X1.out _ hB 2 _ rfl; have x1_3 := X1.out _ hB 3 _ rfl; have x1_4 := X1.out _ hB 4 _ rfl; have x1_5 := X1.out _ hB 5 _ rfl; have x1_6 := X1.out _ hB 6 _ rfl; have x2_0 := X2.out _ hB 0 _ rfl; have x2_1 := X2.out _ hB 1 _ rfl; have x2_2 := X2.out _ hB 2 _ rfl; have x2_3 := X2.out _ hB 3 _ rfl; have x2_4 := X2.out _ hB 4 _ rfl; have x2_5 := X2.out _ hB 5 _ rfl; have x2_6 := X2.out _ hB 6 _ rfl; clear hb)
        go_ret
        exact ⟨rfl, next_below HB0.out (by assumption)⟩
      | true =>
        cases ir with
        | false =>
          clear HRI
          go_wp2_with first | (go_at_call 23; (with_reducible refine (K2.out _ (by assumption)).mono ?_); rintro e w1 ⟨rfl, hb⟩; have hB := next_below (by assumption) hb; have x0_0 := X0.out _ hB 0 _ rfl; have x0_1 := X0.out _ hB 1 _ rfl; have x0_2 := X0.out _ hB 2 _ rfl; have x0_3 := X0.out _ hB 3 _ rfl; have x0_4 := X0.out _ hB 4 _ rfl; have x0_5 := X0.out _ hB 5 _ rfl; have x0_6 := X0.out _ hB 6 _ rfl; have x1_0 := X1.out _ hB 0 _ rfl; have x1_1 := X1.out _ hB 1 _ rfl; have x1_2 := X1.out _ hB 2 _ rfl; have x1_3 := X1.out _ hB 3 _ rfl; have x1_4 := X1.out _ hB 4 _ rfl; have x1_5 := X1.out _ hB 5 _ rfl; have x1_6 := X1.out _ hB 6 _ rfl; have x2_0 := X2.out _ hB 0 _ rfl; have x2_1 := X2.out _ hB 1 _ rfl; have x2_2 := X2.out _ hB 2 _ rfl; have x2_3 := X2.out _ hB 3 _ rfl; have x2_4 := X2.out _ hB 4 _ rfl; have x2_5 := X2.out _ hB 5 _ rfl; have x2_6 := X2.out _ hB 6 _ rfl; clear hb) | (go_at_call 16; (first | (with_reducible refine (K3.out _ (by assumption)).mono ?_) | (with_reducible refine (K4.out _ (by assumption)).mono ?_)); rintro e w1 ⟨rfl, hb⟩; have hB := next_below (by assumption) hb; have x0_0 := X0.out _ hB 0 _ rfl; have x0_1 := X0.out _ hB 1 _ rfl; have x0_2 := X0.out _ hB 2 _ rfl; have x0_3 := X0.out _ hB 3 _ rfl; have x0_4 := X0.out _ hB 4 _ rfl; have x0_5 := X0.out _ hB 5 _ rfl; have x0_6 := X0.out _ hB 6 _ rfl; have x1_0 := X1.out _ hB 0 _ rfl; have x1_1 := X1.out _ hB 1 _ rfl; have x1_2 := X1.out _ hB 2 _ rfl; have x1_3 := X1.out _ hB 3 _ rfl; have x1_4 := X1.out _ hB 4 _ rfl; have x1_5 := X1.out _ hB 5 _ rfl; have x1_6 := X1.out _ hB 6 _ rfl; have x2_0 := X2.out _ hB 0 _ rfl; have x2_1 := X2.out _ hB 1 _ rfl; have x2_2 := X2.out _ hB 2 _ rfl; have x2_3 := X2.out _ hB 3 _ rfl; have x2_4 := X2.out _ hB 4 _ rfl; have x2_5 := X2.out _ hB 5 _ rfl; have x2_6 := X2.out _ hB 6 _ rfl; clear hb) | (go_at_call 19; (with_reducible refine (K7.out _ (by assumption)).mono ?_); rintro e w1 ⟨rfl, hb⟩; have hB := next_below (by assumption) hb; have x0_0 := X0.out _ hB 0 _ rfl; have x0_1 := X0.out _ hB 1 _ rfl; have x0_2 := X0.out _ hB 2 _ rfl; have x0_3 := X0.out _ hB 3 _ rfl; have x0_4 := X0.out _ hB 4 _ rfl; have x0_5 := X0.out _ hB 5 _ rfl; have x0_6 := X0.out _ hB 6 _ rfl; have x1_0 := X1.out _ hB 0 _ rfl; have x1_1 := X1.out _ hB 1 _ rfl; have x1_2 := X1.out _ hB 2 _ rfl; have x1_3 := X1.out _ hB 3 _ rfl; have x1_4 := X1.out _ hB 4 _ rfl; have x1_5 := X1.out _ hB 5 _ rfl; have x1_6 := X1.out _ hB 6 _ rfl; have x2_0 := X2.out _ hB 0 _ rfl; have x2_1 := X2.out _ hB 1 _ rfl; have x2_2 := X2.out _ hB 2 _ rfl; have x2_3 := X2.out _ hB 3 _ rfl; have x2_4 := X2.out _ hB 4 _ rfl; have x2_5 := X2.out _ hB 5 _ rfl; have x2_6 := X2.out _ hB 6 _ rfl; clear hb) | (go_at_call 22; (with_reducible refine (K5.out _ (by assumption)).mono ?_); rintro e w1 ⟨rfl, hb⟩; have hB := next_below (by assumption) hb; have x0_0 := X0.out _ hB 0 _ rfl; have x0_1 := X0.out _ hB 1 _ rfl; have x0_2 := X0.out _ hB 2 _ rfl; have x0_3 := X0.out _ hB 3 _ rfl; have x0_4 := X0.out _ hB 4 _ rfl; have x0_5 := X0.out _ hB 5 _ rfl; have x0_6 := X0.out _ hB 6 _ rfl; have x1_0 := X1.out _ hB 0 _ rfl; have x1_1 := X1.out _ hB 1 _ rfl; have x1_2 := X1.out _ hB 2 _ rfl; have x1_3 := X1.out _ hB 3 _ rfl; have x1_4 := X1.out _ hB 4 _ rfl; have x1_5 := X1.out _ hB 5 _ rfl; have x1_6 := X1.out _ hB 6 _ rfl; have x2_0 := X2.out _ hB 0 _ rfl; have x2_1 := X2.out _ hB 1 _ rfl; have x2_2 := X2.out _ hB 2 _ rfl; have x2_3 := X2.out _ hB 3 _ rfl; have x2_4 := X2.out _ hB 4 _ rfl; have x2_5 := X2.out _ hB 5 _ rfl; have x2_6 := X2.out _ hB 6 _ rfl; clear hb) | (go_at_call 8; (with_reducible refine (KA.out _ (by assumption)).mono ?_); rintro e w1 ⟨rfl, hb⟩; have hB := next_below (by assumption) hb; have x0_0 := X0.out _ hB 0 _ rfl; have x0_1 := X0.out _ hB 1 _ rfl; have x0_2 := X0.out _ hB 2 _ rfl; have x0_3 := X0.out _ hB 3 _ rfl; have x0_4 := X0.out _ hB 4 _ rfl; have x0_5 := X0.out _ hB 5 _ rfl; have x0_6 := X0.out _ hB 6 _ rfl; have x1_0 := X1.out _ hB 0 _ rfl; have x1_1 := X1.out _ hB 1 _ rfl; have x1_2 := X1.out _ hB 2 _ rfl; have x1_3 := X1.out _ hB 3 _ rfl; have x1_4 := X1.out _ hB 4 _ rfl; have x1_5 := X1.out _ hB 5 _ rfl; have x1_6 := X1.out _ hB 6 _ rfl; have x2_0 := X2.out _ hB 0 _ rfl; have x2_1 := X2.out _ hB 1 _ rfl; have x2_2 := X2.out _ hB 2 _ rfl; have x2_3 := X2.out _ hB 3 _ rfl; have x2_4 := X2.out _ hB 4 _ rfl; have x2_5 := X2.out _ hB 5 _ rfl; have x2_6 := X2.out _ hB 6 _ rfl; clear hb)
          go_ret
          exact ⟨rfl, next_below HB0.out (by assumption)⟩
        | true =>
          obtain rfl := HRI.out rfl rfl
          clear HRI
          go_wp2_with first | (go_at_call 23; (with_reducible refine (K2.out _ (by assumption)).mono ?_); rintro e w1 ⟨rfl, hb⟩; have hB := next_below (by assumption) hb; have x0_0 := X0.out _ hB 0 _ rfl; have x0_1 := X0.out _ hB 1 _ rfl; have x0_2 := X0.out _ hB 2 _ rfl; have x0_3 := X0.out _ hB 3 _ rfl; have x0_4 := X0.out _ hB 4 _ rfl; have x0_5 := X0.out _ hB 5 _ rfl; have x0_6 := X0.out _ hB 6 _ rfl; have x1_0 := X1.out _ hB 0 _ rfl; have x1_1 := X1.out _ hB 1 _ rfl; have x1_2 := X1.out _ hB 2 _ rfl; have x1_3 := X1.out _ hB 3 _ rfl; have x1_4 := X1.out _ hB 4 _ rfl; have x1_5 := X1.out _ hB 5 _ rfl; have x1_6 := X1.out _ hB 6 _ rfl; have x2_0 := X2.out _ hB 0 _ rfl; have x2_1 := X2.out _ hB 1 _ rfl; have x2_2 := X2.out _ hB 2 _ rfl; have x2_3 := X2.out _ hB 3 _ rfl; have x2_4 := X2.out _ hB 4 _ rfl; have x2_5 := X2.out _ hB 5 _ rfl; have x2_6 := X2.out _ hB 6 _ rfl; clear hb) | (go_at_call 16; (first | (with_reducible refine (K3.out _ (by assumption)).mono ?_) | (with_reducible refine (K4.out _ (by assumption)).mono ?_)); rintro e w1 ⟨rfl, hb⟩; have hB := next_below (by assumption) hb; have x0_0 := X0.out _ hB 0 _ rfl; have x0_1 := X0.out _ hB 1 _ rfl; have x0_2 := X0.out _ hB 2 _ rfl; have x0_3 := X0.out _ hB 3 _ rfl; have x0_4 := X0.out _ hB 4 _ rfl; have x0_5 := X0.out _ hB 5 _ rfl; have x0_6 := X0.out _ hB 6 _ rfl; have x1_0 := X1.out _ hB 0 _ rfl; have x1_1 := X1.out _ hB 1 _ rfl; have x1_2 := X1.out _ hB 2 _ rfl; have x1_3 := X1.out _ hB 3 _ rfl; have x1_4 := X1.out _ hB 4 _ rfl; have x1_5 := X1.out _ hB 5 _ rfl; have x1_6 := X1.out _ hB 6 _ rfl; have x2_0 := X2.out _ hB 0 _ rfl; have x2_1 := X2.out _ hB 1 _ rfl; have x2_2 := X2.out _ hB 2 _ rfl; have x2_3 := X2.out _ hB 3 _ rfl; have x2_4 := X2.out _ hB 4 _ rfl; have x2_5 := X2.out _ hB 5 _ rfl; have x2_6 := X2.out _ hB 6 _ rfl; clear hb) | (go_at_call 19; (with_reducible refine (K7.out _ (by assumption)).mono ?_); rintro e w1 ⟨rfl, hb⟩; have hB := next_below (by assumption) hb; have x0_0 := X0.out _ hB 0 _ rfl; have x0_1 := X0.out _ hB 1 _ rfl; have x0_2 := X0.out _ hB 2 _ rfl; have x0_3 := X0.out _ hB 3 _ rfl; have x0_4 := X0.out _ hB 4 _ rfl; have x0_5 := X0.out _ hB 5 _ rfl; have x0_6 := X0.out _ hB 6 _ rfl; have x1_0 := X1.out _ hB 0 _ rfl; have x1_1 := X1.out _ hB 1 _ rfl; have x1_2 := X1.out _ hB 2 _ rfl; have x1_3 := X1.out _ hB 3 _ rfl; have x1_4 := X1.out _ hB 4 _ rfl; have x1_5 := X1.out _ hB 5 _ rfl; have x1_6 := X1.out _ hB 6 _ rfl; have x2_0 := X2.out _ hB 0 _ rfl; have x2_1 := X2.out _ hB 1 _ rfl; have x2_2 := X2.out _ hB 2 _ rfl; have x2_3 := X2.out _ hB 3 _ rfl; have x2_4 := X2.out _ hB 4 _ rfl; have x2_5 := X2.out _ hB 5 _ rfl; have x2_6 := X2.out _ hB 6 _ rfl; clear hb) | (go_at_call 22; (with_reducible refine (K5.out _ (by assumption)).mono ?_); rintro e w1 ⟨rfl, hb⟩; have hB := next_below (by assumption) hb; have x0_0 := X0.out _ hB 0 _ rfl; have x0_1 := X0.out _ hB 1 _ rfl; have x0_2 := X0.out _ hB 2 _ rfl; have x0_3 := X0.out _ hB 3 _ rfl; have x0_4 := X0.out _ hB 4 _ rfl; have x0_5 := X0.out _ hB 5 _ rfl; have x0_6 := X0.out _ hB 6 _ rfl; have x1_0 := X1.out _ hB 0 _ rfl; have x1_1 := X1.out _ hB 1 _ rfl; have x1_2 := X1.out _ hB 2 _ rfl; have x1_3 := X1.out _ hB 3 _ rfl; have x1_4 := X1.out _ hB 4 _ rfl; have x1_5 := X1.out _ hB 5 _ rfl; have x1_6 := X1.out _ hB 6 _ rfl; have x2_0 := X2.out _ hB 0 _ rfl; have x2_1 := X2.out _ hB 1 _ rfl; have x2_2 := X2.out _ hB 2 _ rfl; have x2_3 := X2.out _ hB 3 _ rfl; have x2_4 := X2.out _ hB 4 _ rfl; have x2_5 := X2.out _ hB 5 _ rfl; have x2_6 := X2.out _ hB 6 _ rfl; clear hb) | (go_at_call 8; (with_reducible refine (KA.out _ (by assumption)).mono ?_); rintro e w1 ⟨rfl, hb⟩; have hB := next_below (by assumption) hb; have x0_0 := X0.out _ hB 0 _ rfl; have x0_1 := X0.out _ hB 1 _ rfl; have x0_2 := X0.out _ hB 2 _ rfl; have x0_3 := X0.out _ hB 3 _ rfl; have x0_4 := X0.out _ hB 4 _ rfl; have x0_5 := X0.out _ hB 5 _ rfl; have x0_6 := X0.out _ hB 6 _ rfl; have x1_0 := X1.out _ hB 0 _ rfl; have x1_1 := X1.out _ hB 1 _ rfl; have x1_2 := X1.out _ hB 2 _ rfl; have x1_3 := X1.out _ hB 3 _ rfl; have x1_4 := X1.out _ hB 4 _ rfl; have x1_5 := X1.out _ hB 5 _ rfl; have x1_6 := X1.out _ hB 6 _ rfl; have x2_0 := X2.out _ hB 0 _ rfl; have x2_1 := X2.out _ hB 1 _ rfl; have x2_2 := X2.out _ hB 2 _ rfl; have x2_3 := X2.out _ hB 3 _ rfl; have x2_4 := X2.out _ hB 4 _ rfl; have x2_5 := X2.out _ hB 5 _ rfl; have x2_6 := X2.out _ hB 6 _ rfl; clear hb)
          go_ret
          exact ⟨rfl, next_below HB0.out (by assumption)⟩
end Go.Proofs.YtjdmhbfddklhnaaDoor
