/-
  The walk of the law OrderTurns over contracts of the program's package order. Conditions: those contracts.
-/
import Derived.Test.YtjdmhbfddklhnaaDoorOrdAwake
import Derived.Test.YtjdmhbfddklhnaaDoorAuto
set_option linter.unusedVariables false
set_option linter.unusedSimpArgs false
set_option maxRecDepth 100000
namespace Go.Proofs.YtjdmhbfddklhnaaDoor
open Go Go.Proofs Go.RowKit _root_.Ord11 Go.Proofs.YtjdmhbfddklhnaaDoor.Ord11
open Sch (wp_R gr_val gr_is gr_fresh gr_nil gr_on gr_onV gr_offV op_callR Rk)

theorem in_turn (r s : Rg) (b : List UInt8) : inR ordC (meetR ordC r s).1 b = inR ordC (meetR ordC s r).1 b := by
  cases h : (meetR ordC r s).2 with
  | true =>
    have h' : (meetR ordC s r).2 = true := by rw [← meet_comm_ok r s]; exact h
    rw [in_meet ordC_lawful b h, in_meet ordC_lawful b h', Bool.and_comm]
  | false =>
    have h' : (meetR ordC s r).2 = false := by rw [← meet_comm_ok r s]; exact h
    have z : ∀ r s : Rg, (meetR ordC r s).2 = false → (meetR ordC r s).1 = zeroR := by
      intro r s h
      unfold meetR at h ⊢
      split
      · rename_i h2; rw [if_pos h2] at h; cases h
      · rfl
    rw [z r s h, z s r h']
set_option maxHeartbeats 16000000 in
theorem oturns_walk {Q : World → Prop} (H : OrderOk Q) (r s : Rg) (hor : r.o < 256) (hos : s.o < 256) {A1 A2 A3 A4 A5 : Option Addr} {n1 c1 n2 c2 n3 c3 n4 c4 n5 c5 : Nat} {b : List UInt8} (w : World) (hQ : Q w) (r1 : Reads w w.heap.size 1 A1 n1 (Lib.byteCells r.lo.at_)) (k1 : n1 ≤ c1) (r2 : Reads w w.heap.size 1 A2 n2 (Lib.byteCells r.hi.at_)) (k2 : n2 ≤ c2) (r3 : Reads w w.heap.size 1 A3 n3 (Lib.byteCells s.lo.at_)) (k3 : n3 ≤ c3) (r4 : Reads w w.heap.size 1 A4 n4 (Lib.byteCells s.hi.at_)) (k4 : n4 ≤ c4) (r5 : Reads w w.heap.size 1 A5 n5 (Lib.byteCells b)) (k5 : n5 ≤ c5) :
    Calls Tryd.prog 7 #[.agg (rgC r A1 n1 c1 A2 n2 c2), .agg (rgC s A3 n3 c3 A4 n4 c4), .slice A5 n5 c5] w fun e w' => e = .returned (.bool true) ∧ Below w.heap.size w w' := by
  obtain ⟨oa, ⟨ia1, pa1, l1⟩, ⟨ia2, pa2, l2⟩⟩ := r
  obtain ⟨ob, ⟨ib1, pb1, l3⟩, ⟨ib2, pb2, l4⟩⟩ := s
  dsimp only at hor hos r1 r2 r3 r4
  obtain ⟨w0, hw0⟩ : ∃ w0, w0 = ((w.alloc (.cells #[.int .u8 oa, .bool ia1, .bool pa1, .slice A1 n1 c1, .bool ia2, .bool pa2, .slice A2 n2 c2] 31)).alloc (.cells #[.int .u8 ob, .bool ib1, .bool pb1, .slice A3 n3 c3, .bool ib2, .bool pb2, .slice A4 n4 c4] 31)) := ⟨_, rfl⟩
  have HB0 : Hid (Below w.heap.size w w0) := by
    show Below _ _ _
    rw [hw0]
    exact ((Below.refl w.heap.size w).alloc (Nat.le_refl _) _).alloc (by simp; try omega) _
  have B0 : Blk w0 w.heap.size 31 #[.int .u8 oa, .bool ia1, .bool pa1, .slice A1 n1 c1, .bool ia2, .bool pa2, .slice A2 n2 c2] := by
    rw [hw0]
    exact (Blk.new w 31 #[.int .u8 oa, .bool ia1, .bool pa1, .slice A1 n1 c1, .bool ia2, .bool pa2, .slice A2 n2 c2]).alloc (.cells #[.int .u8 ob, .bool ib1, .bool pb1, .slice A3 n3 c3, .bool ib2, .bool pb2, .slice A4 n4 c4] 31)
  have X0 : Hid (∀ W, Below w0.heap.size w0 W → ∀ k u, (#[.int .u8 oa, .bool ia1, .bool pa1, .slice A1 n1 c1, .bool ia2, .bool pa2, .slice A2 n2 c2] : Array Value)[k]? = some u → W.cell? ⟨w.heap.size, k, none⟩ = some u) := fun W hW k u hk => cell_below hW ((B0.cell k).trans hk) B0.lt
  have B1 : Blk w0 (w.heap.size + 1) 31 #[.int .u8 ob, .bool ib1, .bool pb1, .slice A3 n3 c3, .bool ib2, .bool pb2, .slice A4 n4 c4] := by
    rw [hw0]
    have h := Blk.new (w.alloc (.cells #[.int .u8 oa, .bool ia1, .bool pa1, .slice A1 n1 c1, .bool ia2, .bool pa2, .slice A2 n2 c2] 31)) 31 #[.int .u8 ob, .bool ib1, .bool pb1, .slice A3 n3 c3, .bool ib2, .bool pb2, .slice A4 n4 c4]
    simpa using h
  have X1 : Hid (∀ W, Below w0.heap.size w0 W → ∀ k u, (#[.int .u8 ob, .bool ib1, .bool pb1, .slice A3 n3 c3, .bool ib2, .bool pb2, .slice A4 n4 c4] : Array Value)[k]? = some u → W.cell? ⟨(w.heap.size + 1), k, none⟩ = some u) := fun W hW k u hk => cell_below hW ((B1.cell k).trans hk) B1.lt
  have HR : Below w0.heap.size w0 w0 := Below.refl _ _
  clear B0 B1
  have KA : Hid (∀ W, Below w0.heap.size w0 W → Calls Tryd.prog 8 #[] W fun e w' => e = .returned (.bool true) ∧ Below W.heap.size W w') := by
    intro W hW
    exact awake11_any H W (H.old hQ (next_below HB0.out hW))
  have KG : Hid (∀ W, Below w0.heap.size w0 W → Calls Tryd.prog 13 #[.agg #[.int .u8 oa, .bool ia1, .bool pa1, .slice A1 n1 c1, .bool ia2, .bool pa2, .slice A2 n2 c2]] W fun e w' => e = .returned (.bool (decide (200 < n1) || decide (200 < n2))) ∧ Below W.heap.size W w') := fun W hW => refGreat11 ⟨oa, ⟨ia1, pa1, l1⟩, ⟨ia2, pa2, l2⟩⟩ A1 A2 n1 c1 n2 c2 W
  have KH : Hid (∀ W, Below w0.heap.size w0 W → Calls Tryd.prog 13 #[.agg #[.int .u8 ob, .bool ib1, .bool pb1, .slice A3 n3 c3, .bool ib2, .bool pb2, .slice A4 n4 c4]] W fun e w' => e = .returned (.bool (decide (200 < n3) || decide (200 < n4))) ∧ Below W.heap.size W w') := fun W hW => refGreat11 ⟨ob, ⟨ib1, pb1, l3⟩, ⟨ib2, pb2, l4⟩⟩ A3 A4 n3 c3 n4 c4 W
  obtain ⟨gt, hgt⟩ : ∃ x, x = (decide (200 < n1) || decide (200 < n2)) := ⟨_, rfl⟩
  obtain ⟨gu, hgu⟩ : ∃ x, x = (decide (200 < n3) || decide (200 < n4)) := ⟨_, rfl⟩
  rw [← hgt] at KG
  rw [← hgu] at KH
  unfold rgC
  have HQ := Lib.hid hQ
  by_cases hbig : gt = true ∨ gu = true ∨ 200 < n5
  · have h3 : gt = false → gu = false → 200 < n5 := fun h h' => by
      rcases hbig with h2 | h2 | h2
      · rw [h2] at h; cases h
      · rw [h2] at h'; cases h'
      · exact h2
    clear hbig hgt hgu r1 r2 r3 r4 r5
    go_enter Tryd.func7, Tryd.ntmps7
    go_upto_region 1 with fail
    rw [← hw0]
    clear hw0
    have x0_0 := X0.out _ HR 0 _ rfl
    have x0_1 := X0.out _ HR 1 _ rfl
    have x0_2 := X0.out _ HR 2 _ rfl
    have x0_3 := X0.out _ HR 3 _ rfl
    have x0_4 := X0.out _ HR 4 _ rfl
    have x0_5 := X0.out _ HR 5 _ rfl
    have x0_6 := X0.out _ HR 6 _ rfl
    have x1_0 := X1.out _ HR 0 _ rfl
    have x1_1 := X1.out _ HR 1 _ rfl
    have x1_2 := X1.out _ HR 2 _ rfl
    have x1_3 := X1.out _ HR 3 _ rfl
    have x1_4 := X1.out _ HR 4 _ rfl
    have x1_5 := X1.out _ HR 5 _ rfl
    have x1_6 := X1.out _ HR 6 _ rfl

    cases gt with
    | true =>
      clear h3
      go_wp2_with first | (go_at_call 13; (first | (with_reducible refine (KG.out _ (by assumption)).mono ?_) | (with_reducible refine (KH.out _ (by assumption)).mono ?_)); rintro e w1 ⟨rfl, hb⟩; have hB := next_below (by assumption) hb; have x0_0 := X0.out _ hB 0 _ rfl; have x0_1 := X0.out _ hB 1 _ rfl; have x0_2 := X0.out _ hB 2 _ rfl; have x0_3 := X0.out _ hB 3 _ rfl; have x0_4 := X0.out _ hB 4 _ rfl; have x0_5 := X0.out _ hB 5 _ rfl; have x0_6 := X0.out _ hB 6 _ rfl; have x1_0 := X1.out _ hB 0 _ rfl; have x1_1 := X1.out _ hB 1 _ rfl; have x1_2 := X1.out _ hB 2 _ rfl; have x1_3 := X1.out _ hB 3 _ rfl; have x1_4 := X1.out _ hB 4 _ rfl; have x1_5 := X1.out _ hB 5 _ rfl; have x1_6 := X1.out _ hB 6 _ rfl; clear hb) | (go_at_call 8; (with_reducible refine (KA.out _ (by assumption)).mono ?_); rintro e w1 ⟨rfl, hb⟩; have hB := next_below (by assumption) hb; have x0_0 := X0.out _ hB 0 _ rfl; have x0_1 := X0.out _ hB 1 _ rfl; have x0_2 := X0.out _ hB 2 _ rfl; have x0_3 := X0.out _ hB 3 _ rfl; have x0_4 := X0.out _ hB 4 _ rfl; have x0_5 := X0.out _ hB 5 _ rfl; have x0_6 := X0.out _ hB 6 _ rfl; have x1_0 := X1.out _ hB 0 _ rfl; have x1_1 := X1.out _ hB 1 _ rfl; have x1_2 := X1.out _ hB 2 _ rfl; have x1_3 := X1.out _ hB 3 _ rfl; have x1_4 := X1.out _ hB 4 _ rfl; have x1_5 := X1.out _ hB 5 _ rfl; have x1_6 := X1.out _ hB 6 _ rfl; clear hb)
      go_ret
      exact ⟨rfl, next_below HB0.out (by assumption)⟩
    | false =>
      cases gu with
      | true =>
        clear h3
        go_wp2_with first | (go_at_call 13; (first | (with_reducible refine (KG.out _ (by assumption)).mono ?_) | (with_reducible refine (KH.out _ (by assumption)).mono ?_)); rintro e w1 ⟨rfl, hb⟩; have hB := next_below (by assumption) hb; have x0_0 := X0.out _ hB 0 _ rfl; have x0_1 := X0.out _ hB 1 _ rfl; have x0_2 := X0.out _ hB 2 _ rfl; have x0_3 := X0.out _ hB 3 _ rfl; have x0_4 := X0.out _ hB 4 _ rfl; have x0_5 := X0.out _ hB 5 _ rfl; have x0_6 := X0.out _ hB 6 _ rfl; have x1_0 := X1.out _ hB 0 _ rfl; have x1_1 := X1.out _ hB 1 _ rfl; have x1_2 := X1.out _ hB 2 _ rfl; have x1_3 := X1.out _ hB 3 _ rfl; have x1_4 := X1.out _ hB 4 _ rfl; have x1_5 := X1.out _ hB 5 _ rfl; have x1_6 := X1.out _ hB 6 _ rfl; clear hb) | (go_at_call 8; (with_reducible refine (KA.out _ (by assumption)).mono ?_); rintro e w1 ⟨rfl, hb⟩; have hB := next_below (by assumption) hb; have x0_0 := X0.out _ hB 0 _ rfl; have x0_1 := X0.out _ hB 1 _ rfl; have x0_2 := X0.out _ hB 2 _ rfl; have x0_3 := X0.out _ hB 3 _ rfl; have x0_4 := X0.out _ hB 4 _ rfl; have x0_5 := X0.out _ hB 5 _ rfl; have x0_6 := X0.out _ hB 6 _ rfl; have x1_0 := X1.out _ hB 0 _ rfl; have x1_1 := X1.out _ hB 1 _ rfl; have x1_2 := X1.out _ hB 2 _ rfl; have x1_3 := X1.out _ hB 3 _ rfl; have x1_4 := X1.out _ hB 4 _ rfl; have x1_5 := X1.out _ hB 5 _ rfl; have x1_6 := X1.out _ hB 6 _ rfl; clear hb)
        go_ret
        exact ⟨rfl, next_below HB0.out (by assumption)⟩
      | false =>
        have h3' := h3 rfl rfl
        clear h3
        go_wp2_with first | (go_at_call 13; (first | (with_reducible refine (KG.out _ (by assumption)).mono ?_) | (with_reducible refine (KH.out _ (by assumption)).mono ?_)); rintro e w1 ⟨rfl, hb⟩; have hB := next_below (by assumption) hb; have x0_0 := X0.out _ hB 0 _ rfl; have x0_1 := X0.out _ hB 1 _ rfl; have x0_2 := X0.out _ hB 2 _ rfl; have x0_3 := X0.out _ hB 3 _ rfl; have x0_4 := X0.out _ hB 4 _ rfl; have x0_5 := X0.out _ hB 5 _ rfl; have x0_6 := X0.out _ hB 6 _ rfl; have x1_0 := X1.out _ hB 0 _ rfl; have x1_1 := X1.out _ hB 1 _ rfl; have x1_2 := X1.out _ hB 2 _ rfl; have x1_3 := X1.out _ hB 3 _ rfl; have x1_4 := X1.out _ hB 4 _ rfl; have x1_5 := X1.out _ hB 5 _ rfl; have x1_6 := X1.out _ hB 6 _ rfl; clear hb) | (go_at_call 8; (with_reducible refine (KA.out _ (by assumption)).mono ?_); rintro e w1 ⟨rfl, hb⟩; have hB := next_below (by assumption) hb; have x0_0 := X0.out _ hB 0 _ rfl; have x0_1 := X0.out _ hB 1 _ rfl; have x0_2 := X0.out _ hB 2 _ rfl; have x0_3 := X0.out _ hB 3 _ rfl; have x0_4 := X0.out _ hB 4 _ rfl; have x0_5 := X0.out _ hB 5 _ rfl; have x0_6 := X0.out _ hB 6 _ rfl; have x1_0 := X1.out _ hB 0 _ rfl; have x1_1 := X1.out _ hB 1 _ rfl; have x1_2 := X1.out _ hB 2 _ rfl; have x1_3 := X1.out _ hB 3 _ rfl; have x1_4 := X1.out _ hB 4 _ rfl; have x1_5 := X1.out _ hB 5 _ rfl; have x1_6 := X1.out _ hB 6 _ rfl; clear hb)
        go_ret
        exact ⟨rfl, next_below HB0.out (by assumption)⟩
  have hg0 : gt = false := by
    cases gt with
    | true => exact absurd (.inl rfl) hbig
    | false => rfl
  have hg1 : gu = false := by
    cases gu with
    | true => exact absurd (.inr (.inl rfl)) hbig
    | false => rfl
  have h3 : ¬ 200 < n5 := fun h => hbig (.inr (.inr h))
  rw [hg0] at hgt
  rw [hg1] at hgu
  have hn : (n1 ≤ 200 ∧ n2 ≤ 200) ∧ n3 ≤ 200 ∧ n4 ≤ 200 := by
    have h := hgt.symm
    have h' := hgu.symm
    simp at h h'
    exact ⟨h, h'⟩
  have s5 : SlAt w w.heap.size A5 n5 c5 b := ⟨r5, by omega, k5⟩
  have hr : RgIs w ⟨oa, ⟨ia1, pa1, l1⟩, ⟨ia2, pa2, l2⟩⟩ #[.int .u8 oa, .bool ia1, .bool pa1, .slice A1 n1 c1, .bool ia2, .bool pa2, .slice A2 n2 c2] := ⟨_, _, _, _, _, _, rfl, hor, ⟨r1, by omega, k1⟩, ⟨r2, by omega, k2⟩⟩
  have hs : RgIs w ⟨ob, ⟨ib1, pb1, l3⟩, ⟨ib2, pb2, l4⟩⟩ #[.int .u8 ob, .bool ib1, .bool pb1, .slice A3 n3 c3, .bool ib2, .bool pb2, .slice A4 n4 c4] := ⟨_, _, _, _, _, _, rfl, hos, ⟨r3, by omega, k3⟩, ⟨r4, by omega, k4⟩⟩
  subst hg0 hg1
  have HS5 := Lib.hid s5
  have HRR := Lib.hid hr
  have HSS := Lib.hid hs
  clear hgt hgu hbig hn r1 r2 r3 r4 r5 s5 hr hs hQ
  obtain ⟨ma, hma⟩ : ∃ i, i = mayR ordC ⟨oa, zeroB, zeroB⟩ := ⟨_, rfl⟩
  obtain ⟨mr, hmr⟩ : ∃ i, i = mayR ordC ⟨oa, ⟨ia1, pa1, l1⟩, ⟨ia2, pa2, l2⟩⟩ := ⟨_, rfl⟩
  obtain ⟨vi, hvi⟩ : ∃ i, i = isV ordC oa b := ⟨_, rfl⟩
  have ho : RgIs w ⟨oa, zeroB, zeroB⟩ #[.int .u8 oa, .bool false, .bool false, .slice none 0 0, .bool false, .bool false, .slice none 0 0] := ⟨none, 0, 0, none, 0, 0, rfl, hor, ⟨Reads.none_, by omega, by omega⟩, ⟨Reads.none_, by omega, by omega⟩⟩
  have HO := Lib.hid ho
  clear ho
  have K1 : Hid (∀ W, Below w0.heap.size w0 W → Calls Tryd.prog 16 #[.agg #[.int .u8 oa, .bool false, .bool false, .slice none 0 0, .bool false, .bool false, .slice none 0 0], .slice A5 n5 c5] W fun e w' => e = .returned (.bool (ma && vi)) ∧ Below W.heap.size W w') := by
    intro W hW
    have hW' := next_below HB0.out hW
    rw [hma, hvi, ← all_in]; exact H.in_ (H.old HQ.out hW') (HO.out.next hW') (HS5.out.next hW')
  have K2 : Hid (∀ W, Below w0.heap.size w0 W → Calls Tryd.prog 15 #[.agg #[.int .u8 oa, .bool false, .bool false, .slice none 0 0, .bool false, .bool false, .slice none 0 0]] W fun e w' => e = .returned (.bool ma) ∧ Below W.heap.size W w') := by
    intro W hW
    have hW' := next_below HB0.out hW
    rw [hma]; exact rMay (HO.out.next hW')
  have K3 : Hid (∀ W, Below w0.heap.size w0 W → Calls Tryd.prog 11 #[.int .u8 oa, .slice A5 n5 c5] W fun e w' => e = .returned (.bool vi) ∧ Below W.heap.size W w') := by
    intro W hW
    have hW' := next_below HB0.out hW
    rw [hvi]; exact H.is oa hor (H.old HQ.out hW') (HS5.out.next hW')
  have K4 : Hid (∀ W, Below w0.heap.size w0 W → Calls Tryd.prog 23 #[.agg #[.int .u8 oa, .bool ia1, .bool pa1, .slice A1 n1 c1, .bool ia2, .bool pa2, .slice A2 n2 c2], .agg #[.int .u8 oa, .bool false, .bool false, .slice none 0 0, .bool false, .bool false, .slice none 0 0]] W fun e w' => e = .returned (.bool mr) ∧ Below W.heap.size W w') := by
    intro W hW
    have hW' := next_below HB0.out hW
    rw [hmr, ← within_all ⟨oa, ⟨ia1, pa1, l1⟩, ⟨ia2, pa2, l2⟩⟩]; exact H.within (H.old HQ.out hW') (HRR.out.next hW') (HO.out.next hW')
  have K5 : Hid (∀ W, Below w0.heap.size w0 W → Calls Tryd.prog 15 #[.agg #[.int .u8 oa, .bool ia1, .bool pa1, .slice A1 n1 c1, .bool ia2, .bool pa2, .slice A2 n2 c2]] W fun e w' => e = .returned (.bool mr) ∧ Below W.heap.size W w') := by
    intro W hW
    have hW' := next_below HB0.out hW
    rw [hmr]; exact rMay (HRR.out.next hW')
  clear hma hmr hvi HO
  go_enter Tryd.func7, Tryd.ntmps7
  go_upto_region 1 with fail
  rw [← hw0]
  clear hw0
  have x0_0 := X0.out _ HR 0 _ rfl
  have x0_1 := X0.out _ HR 1 _ rfl
  have x0_2 := X0.out _ HR 2 _ rfl
  have x0_3 := X0.out _ HR 3 _ rfl
  have x0_4 := X0.out _ HR 4 _ rfl
  have x0_5 := X0.out _ HR 5 _ rfl
  have x0_6 := X0.out _ HR 6 _ rfl
  have x1_0 := X1.out _ HR 0 _ rfl
  have x1_1 := X1.out _ HR 1 _ rfl
  have x1_2 := X1.out _ HR 2 _ rfl
  have x1_3 := X1.out _ HR 3 _ rfl
  have x1_4 := X1.out _ HR 4 _ rfl
  have x1_5 := X1.out _ HR 5 _ rfl
  have x1_6 := X1.out _ HR 6 _ rfl
  go_upto_region 3 with (go_at_call 13; (first | (with_reducible refine (KG.out _ (by assumption)).mono ?_) | (with_reducible refine (KH.out _ (by assumption)).mono ?_)); rintro e w1 ⟨rfl, hb⟩; have hB := next_below (by assumption) hb; have x0_0 := X0.out _ hB 0 _ rfl; have x0_1 := X0.out _ hB 1 _ rfl; have x0_2 := X0.out _ hB 2 _ rfl; have x0_3 := X0.out _ hB 3 _ rfl; have x0_4 := X0.out _ hB 4 _ rfl; have x0_5 := X0.out _ hB 5 _ rfl; have x0_6 := X0.out _ hB 6 _ rfl; have x1_0 := X1.out _ hB 0 _ rfl; have x1_1 := X1.out _ hB 1 _ rfl; have x1_2 := X1.out _ hB 2 _ rfl; have x1_3 := X1.out _ hB 3 _ rfl; have x1_4 := X1.out _ hB 4 _ rfl; have x1_5 := X1.out _ hB 5 _ rfl; have x1_6 := X1.out _ hB 6 _ rfl; clear hb)
  clear KG KH
  go_wp2_with fail
  refine (H.meet (H.old HQ.out (next_below HB0.out hB)) (HRR.out.next (next_below HB0.out hB)) (HSS.out.next (next_below HB0.out hB))).mono ?_
  rintro e v1 ⟨x, rfl, hin, hb⟩
  obtain ⟨Dx1, jx1, ex1, Dx2, jx2, ex2, rfl, hoz, hq1, hq2⟩ := hin
  obtain ⟨mx, hmx⟩ : ∃ m, m = (meetR ordC ⟨oa, ⟨ia1, pa1, l1⟩, ⟨ia2, pa2, l2⟩⟩ ⟨ob, ⟨ib1, pb1, l3⟩, ⟨ib2, pb2, l4⟩⟩).1 := ⟨_, rfl⟩
  rw [← hmx] at hq1 hq2 hoz ⊢
  obtain ⟨ox, ⟨ix1, px1, lx1⟩, ⟨ix2, px2, lx2⟩⟩ := mx
  have hB' := next_below hB hb
  clear hb x0_0 x0_1 x0_2 x0_3 x0_4 x0_5 x0_6 x1_0 x1_1 x1_2 x1_3 x1_4 x1_5 x1_6 hB
  unfold rgC
  dsimp only at hoz hq1 hq2 ⊢
  go_upto_region 4 with (refine wpList_store_row rfl 31 (.tmp 7) (.tmp 28) rfl v1.heap.size _ rfl rfl 31 #[.int .u8 0, .bool false, .bool false, .slice none 0 0, .bool false, .bool false, .slice none 0 0] (Blk.new _ _ _) infoRg rfl (by simp [Value.oneCell']) ?_)
  obtain ⟨wx, hwx⟩ : ∃ w9, w9 = (v1.alloc (.cells #[.int .u8 0, .bool false, .bool false, .slice none 0 0, .bool false, .bool false, .slice none 0 0] 31)).setRow v1.heap.size #[.int .u8 ox, .bool ix1, .bool px1, .slice Dx1 jx1 ex1, .bool ix2, .bool px2, .slice Dx2 jx2 ex2] := ⟨_, rfl⟩
  have hbn : Below v1.heap.size v1 wx := by rw [hwx]; exact below_row ((Below.refl _ _).alloc (Nat.le_refl _) _) (Nat.le_refl _) _
  have hbx : Blk wx v1.heap.size 31 #[.int .u8 ox, .bool ix1, .bool px1, .slice Dx1 jx1 ex1, .bool ix2, .bool px2, .slice Dx2 jx2 ex2] := by rw [hwx]; exact (Blk.new _ _ _).row _
  rw [← hwx]
  have hB9 := next_below hB' hbn
  have HB9 := Lib.hid (next_below HB0.out hB9)
  have HMx : Hid (RgIs wx ⟨ox, ⟨ix1, px1, lx1⟩, ⟨ix2, px2, lx2⟩⟩ #[.int .u8 ox, .bool ix1, .bool px1, .slice Dx1 jx1 ex1, .bool ix2, .bool px2, .slice Dx2 jx2 ex2]) := ⟨_, _, _, _, _, _, rfl, hoz, hq1.next hbn, hq2.next hbn⟩
  have X2 : Hid (∀ W, Below wx.heap.size wx W → ∀ k u, (#[.int .u8 ox, .bool ix1, .bool px1, .slice Dx1 jx1 ex1, .bool ix2, .bool px2, .slice Dx2 jx2 ex2] : Array Value)[k]? = some u → W.cell? ⟨v1.heap.size, k, none⟩ = some u) := fun W hW k u hk => cell_below hW ((hbx.cell k).trans hk) hbx.lt
  have HEx := Lib.hid hmx
  generalize v1.heap.size = gx at *
  replace X0 := Lib.hid (fun W (hW : Below wx.heap.size wx W) => X0.out W (next_below hB9 hW))
  replace X1 := Lib.hid (fun W (hW : Below wx.heap.size wx W) => X1.out W (next_below hB9 hW))
  replace KA := Lib.hid (fun W (hW : Below wx.heap.size wx W) => KA.out W (next_below hB9 hW))
  replace K1 := Lib.hid (fun W (hW : Below wx.heap.size wx W) => K1.out W (next_below hB9 hW))
  replace K2 := Lib.hid (fun W (hW : Below wx.heap.size wx W) => K2.out W (next_below hB9 hW))
  replace K3 := Lib.hid (fun W (hW : Below wx.heap.size wx W) => K3.out W (next_below hB9 hW))
  replace K4 := Lib.hid (fun W (hW : Below wx.heap.size wx W) => K4.out W (next_below hB9 hW))
  replace K5 := Lib.hid (fun W (hW : Below wx.heap.size wx W) => K5.out W (next_below hB9 hW))
  replace HB0 := HB9
  clear hB9 HB9 hB' hbn hbx hoz hq1 hq2 hwx hmx
  have hB : Below wx.heap.size wx wx := Below.refl _ _
  have x0_0 := X0.out _ hB 0 _ rfl
  have x0_1 := X0.out _ hB 1 _ rfl
  have x0_2 := X0.out _ hB 2 _ rfl
  have x0_3 := X0.out _ hB 3 _ rfl
  have x0_4 := X0.out _ hB 4 _ rfl
  have x0_5 := X0.out _ hB 5 _ rfl
  have x0_6 := X0.out _ hB 6 _ rfl
  have x1_0 := X1.out _ hB 0 _ rfl
  have x1_1 := X1.out _ hB 1 _ rfl
  have x1_2 := X1.out _ hB 2 _ rfl
  have x1_3 := X1.out _ hB 3 _ rfl
  have x1_4 := X1.out _ hB 4 _ rfl
  have x1_5 := X1.out _ hB 5 _ rfl
  have x1_6 := X1.out _ hB 6 _ rfl
  have x2_0 := X2.out _ hB 0 _ rfl
  have x2_1 := X2.out _ hB 1 _ rfl
  have x2_2 := X2.out _ hB 2 _ rfl
  have x2_3 := X2.out _ hB 3 _ rfl
  have x2_4 := X2.out _ hB 4 _ rfl
  have x2_5 := X2.out _ hB 5 _ rfl
  have x2_6 := X2.out _ hB 6 _ rfl
  go_wp2_with fail
  refine (H.meet (H.old HQ.out (next_below HB0.out hB)) (HSS.out.next (next_below HB0.out hB)) (HRR.out.next (next_below HB0.out hB))).mono ?_
  rintro e v1 ⟨x, rfl, hin, hb⟩
  obtain ⟨Dy1, jy1, ey1, Dy2, jy2, ey2, rfl, hoz, hq1, hq2⟩ := hin
  obtain ⟨my, hmy⟩ : ∃ m, m = (meetR ordC ⟨ob, ⟨ib1, pb1, l3⟩, ⟨ib2, pb2, l4⟩⟩ ⟨oa, ⟨ia1, pa1, l1⟩, ⟨ia2, pa2, l2⟩⟩).1 := ⟨_, rfl⟩
  rw [← hmy] at hq1 hq2 hoz ⊢
  obtain ⟨oy, ⟨iy1, py1, ly1⟩, ⟨iy2, py2, ly2⟩⟩ := my
  have hB' := next_below hB hb
  clear hb x0_0 x0_1 x0_2 x0_3 x0_4 x0_5 x0_6 x1_0 x1_1 x1_2 x1_3 x1_4 x1_5 x1_6 x2_0 x2_1 x2_2 x2_3 x2_4 x2_5 x2_6 hB
  unfold rgC
  dsimp only at hoz hq1 hq2 ⊢
  go_upto_region 5 with (refine wpList_store_row rfl 31 (.tmp 9) (.tmp 34) rfl v1.heap.size _ rfl rfl 31 #[.int .u8 0, .bool false, .bool false, .slice none 0 0, .bool false, .bool false, .slice none 0 0] (Blk.new _ _ _) infoRg rfl (by simp [Value.oneCell']) ?_)
  obtain ⟨wy, hwy⟩ : ∃ w9, w9 = (v1.alloc (.cells #[.int .u8 0, .bool false, .bool false, .slice none 0 0, .bool false, .bool false, .slice none 0 0] 31)).setRow v1.heap.size #[.int .u8 oy, .bool iy1, .bool py1, .slice Dy1 jy1 ey1, .bool iy2, .bool py2, .slice Dy2 jy2 ey2] := ⟨_, rfl⟩
  have hbn : Below v1.heap.size v1 wy := by rw [hwy]; exact below_row ((Below.refl _ _).alloc (Nat.le_refl _) _) (Nat.le_refl _) _
  have hbx : Blk wy v1.heap.size 31 #[.int .u8 oy, .bool iy1, .bool py1, .slice Dy1 jy1 ey1, .bool iy2, .bool py2, .slice Dy2 jy2 ey2] := by rw [hwy]; exact (Blk.new _ _ _).row _
  rw [← hwy]
  have hB9 := next_below hB' hbn
  have HB9 := Lib.hid (next_below HB0.out hB9)
  have HMy : Hid (RgIs wy ⟨oy, ⟨iy1, py1, ly1⟩, ⟨iy2, py2, ly2⟩⟩ #[.int .u8 oy, .bool iy1, .bool py1, .slice Dy1 jy1 ey1, .bool iy2, .bool py2, .slice Dy2 jy2 ey2]) := ⟨_, _, _, _, _, _, rfl, hoz, hq1.next hbn, hq2.next hbn⟩
  have X3 : Hid (∀ W, Below wy.heap.size wy W → ∀ k u, (#[.int .u8 oy, .bool iy1, .bool py1, .slice Dy1 jy1 ey1, .bool iy2, .bool py2, .slice Dy2 jy2 ey2] : Array Value)[k]? = some u → W.cell? ⟨v1.heap.size, k, none⟩ = some u) := fun W hW k u hk => cell_below hW ((hbx.cell k).trans hk) hbx.lt
  have HEy := Lib.hid hmy
  generalize v1.heap.size = gy at *
  replace X0 := Lib.hid (fun W (hW : Below wy.heap.size wy W) => X0.out W (next_below hB9 hW))
  replace X1 := Lib.hid (fun W (hW : Below wy.heap.size wy W) => X1.out W (next_below hB9 hW))
  replace X2 := Lib.hid (fun W (hW : Below wy.heap.size wy W) => X2.out W (next_below hB9 hW))
  replace KA := Lib.hid (fun W (hW : Below wy.heap.size wy W) => KA.out W (next_below hB9 hW))
  replace K1 := Lib.hid (fun W (hW : Below wy.heap.size wy W) => K1.out W (next_below hB9 hW))
  replace K2 := Lib.hid (fun W (hW : Below wy.heap.size wy W) => K2.out W (next_below hB9 hW))
  replace K3 := Lib.hid (fun W (hW : Below wy.heap.size wy W) => K3.out W (next_below hB9 hW))
  replace K4 := Lib.hid (fun W (hW : Below wy.heap.size wy W) => K4.out W (next_below hB9 hW))
  replace K5 := Lib.hid (fun W (hW : Below wy.heap.size wy W) => K5.out W (next_below hB9 hW))
  replace HMx := Lib.hid (HMx.out.next hB9)
  replace HB0 := HB9
  clear hB9 HB9 hB' hbn hbx hoz hq1 hq2 hwy hmy
  have hB : Below wy.heap.size wy wy := Below.refl _ _
  have x0_0 := X0.out _ hB 0 _ rfl
  have x0_1 := X0.out _ hB 1 _ rfl
  have x0_2 := X0.out _ hB 2 _ rfl
  have x0_3 := X0.out _ hB 3 _ rfl
  have x0_4 := X0.out _ hB 4 _ rfl
  have x0_5 := X0.out _ hB 5 _ rfl
  have x0_6 := X0.out _ hB 6 _ rfl
  have x1_0 := X1.out _ hB 0 _ rfl
  have x1_1 := X1.out _ hB 1 _ rfl
  have x1_2 := X1.out _ hB 2 _ rfl
  have x1_3 := X1.out _ hB 3 _ rfl
  have x1_4 := X1.out _ hB 4 _ rfl
  have x1_5 := X1.out _ hB 5 _ rfl
  have x1_6 := X1.out _ hB 6 _ rfl
  have x2_0 := X2.out _ hB 0 _ rfl
  have x2_1 := X2.out _ hB 1 _ rfl
  have x2_2 := X2.out _ hB 2 _ rfl
  have x2_3 := X2.out _ hB 3 _ rfl
  have x2_4 := X2.out _ hB 4 _ rfl
  have x2_5 := X2.out _ hB 5 _ rfl
  have x2_6 := X2.out _ hB 6 _ rfl
  have x3_0 := X3.out _ hB 0 _ rfl
  have x3_1 := X3.out _ hB 1 _ rfl
  have x3_2 := X3.out _ hB 2 _ rfl
  have x3_3 := X3.out _ hB 3 _ rfl
  have x3_4 := X3.out _ hB 4 _ rfl
  have x3_5 := X3.out _ hB 5 _ rfl
  have x3_6 := X3.out _ hB 6 _ rfl
  obtain ⟨i1, hi1⟩ : ∃ i, i = inR ordC ⟨ox, ⟨ix1, px1, lx1⟩, ⟨ix2, px2, lx2⟩⟩ b := ⟨_, rfl⟩
  obtain ⟨e1, he1⟩ : ∃ i, i = emptyR ordC ⟨ox, ⟨ix1, px1, lx1⟩, ⟨ix2, px2, lx2⟩⟩ := ⟨_, rfl⟩
  have hi2 : inR ordC ⟨oy, ⟨iy1, py1, ly1⟩, ⟨iy2, py2, ly2⟩⟩ b = i1 := by rw [hi1, HEx.out, HEy.out]; exact in_turn ⟨ob, ⟨ib1, pb1, l3⟩, ⟨ib2, pb2, l4⟩⟩ ⟨oa, ⟨ia1, pa1, l1⟩, ⟨ia2, pa2, l2⟩⟩ b
  have he2 : emptyR ordC ⟨oy, ⟨iy1, py1, ly1⟩, ⟨iy2, py2, ly2⟩⟩ = e1 := by rw [he1, HEx.out, HEy.out]; exact empty_turn ordC_lawful ⟨ob, ⟨ib1, pb1, l3⟩, ⟨ib2, pb2, l4⟩⟩ ⟨oa, ⟨ia1, pa1, l1⟩, ⟨ia2, pa2, l2⟩⟩
  have hok : (meetR ordC ⟨ob, ⟨ib1, pb1, l3⟩, ⟨ib2, pb2, l4⟩⟩ ⟨oa, ⟨ia1, pa1, l1⟩, ⟨ia2, pa2, l2⟩⟩).2 = (meetR ordC ⟨oa, ⟨ia1, pa1, l1⟩, ⟨ia2, pa2, l2⟩⟩ ⟨ob, ⟨ib1, pb1, l3⟩, ⟨ib2, pb2, l4⟩⟩).2 := meet_comm_ok ⟨ob, ⟨ib1, pb1, l3⟩, ⟨ib2, pb2, l4⟩⟩ ⟨oa, ⟨ia1, pa1, l1⟩, ⟨ia2, pa2, l2⟩⟩
  rw [hok]
  generalize (meetR ordC ⟨oa, ⟨ia1, pa1, l1⟩, ⟨ia2, pa2, l2⟩⟩ ⟨ob, ⟨ib1, pb1, l3⟩, ⟨ib2, pb2, l4⟩⟩).2 = ok at *
  have K6 : Hid (∀ W, Below wy.heap.size wy W → Calls Tryd.prog 16 #[.agg #[.int .u8 ox, .bool ix1, .bool px1, .slice Dx1 jx1 ex1, .bool ix2, .bool px2, .slice Dx2 jx2 ex2], .slice A5 n5 c5] W fun e w' => e = .returned (.bool i1) ∧ Below W.heap.size W w') := by
    intro W hW
    have hW' := next_below HB0.out hW
    rw [hi1]; exact H.in_ (H.old HQ.out hW') (HMx.out.next hW) (HS5.out.next hW')
  have K7 : Hid (∀ W, Below wy.heap.size wy W → Calls Tryd.prog 16 #[.agg #[.int .u8 oy, .bool iy1, .bool py1, .slice Dy1 jy1 ey1, .bool iy2, .bool py2, .slice Dy2 jy2 ey2], .slice A5 n5 c5] W fun e w' => e = .returned (.bool i1) ∧ Below W.heap.size W w') := by
    intro W hW
    have hW' := next_below HB0.out hW
    rw [← hi2]; exact H.in_ (H.old HQ.out hW') (HMy.out.next hW) (HS5.out.next hW')
  have K8 : Hid (∀ W, Below wy.heap.size wy W → Calls Tryd.prog 18 #[.agg #[.int .u8 ox, .bool ix1, .bool px1, .slice Dx1 jx1 ex1, .bool ix2, .bool px2, .slice Dx2 jx2 ex2]] W fun e w' => e = .returned (.bool e1) ∧ Below W.heap.size W w') := by
    intro W hW
    have hW' := next_below HB0.out hW
    rw [he1]; exact H.empty (H.old HQ.out hW') (HMx.out.next hW)
  have K9 : Hid (∀ W, Below wy.heap.size wy W → Calls Tryd.prog 18 #[.agg #[.int .u8 oy, .bool iy1, .bool py1, .slice Dy1 jy1 ey1, .bool iy2, .bool py2, .slice Dy2 jy2 ey2]] W fun e w' => e = .returned (.bool e1) ∧ Below W.heap.size W w') := by
    intro W hW
    have hW' := next_below HB0.out hW
    rw [← he2]; exact H.empty (H.old HQ.out hW') (HMy.out.next hW)
  clear hi1 he1 hi2 he2 hok HEx HEy HMx HMy x0_0 x0_1 x0_2 x0_3 x0_4 x0_5 x0_6 x1_0 x1_1 x1_2 x1_3 x1_4 x1_5 x1_6 x2_0 x2_1 x2_2 x2_3 x2_4 x2_5 x2_6 x3_0 x3_1 x3_2 x3_3 x3_4 x3_5 x3_6
  try simp only [Act.put]
  refine wp_R [36, 37, 38, 39, 40, 41, 42, 43, 44, 45, 46, 47, 48, 49, 50, 51, 52, 53, 54] [Rk.val (.bool ok), Rk.val (.bool ok), Rk.val (.bool false), Rk.val (.bool false), Rk.val (.agg #[.int .u8 ox, .bool ix1, .bool px1, .slice Dx1 jx1 ex1, .bool ix2, .bool px2, .slice Dx2 jx2 ex2]), Rk.val (.slice A5 n5 c5), Rk.val (.bool i1), Rk.val (.agg #[.int .u8 oy, .bool iy1, .bool py1, .slice Dy1 jy1 ey1, .bool iy2, .bool py2, .slice Dy2 jy2 ey2]), Rk.val (.slice A5 n5 c5), Rk.val (.bool i1), Rk.val (.bool false), Rk.val (.bool false), Rk.val (.bool false), Rk.val (.agg #[.int .u8 ox, .bool ix1, .bool px1, .slice Dx1 jx1 ex1, .bool ix2, .bool px2, .slice Dx2 jx2 ex2]), Rk.val (.bool e1), Rk.val (.agg #[.int .u8 oy, .bool iy1, .bool py1, .slice Dy1 jy1 ey1, .bool iy2, .bool py2, .slice Dy2 jy2 ey2]), Rk.val (.bool e1), Rk.val (.bool false), Rk.val (.bool false)] rfl (by kernel_rfl) (by kernel_rfl) (by kernel_rfl) (by kernel_rfl) ?hg1 _ (by rfl) ?hf1
  case hg1 =>
    refine gr_val rfl (by kernel_rfl) (fun a V H K Q hK => op_quiet (quiet_move (.tmp 8) (H.old 8 (by kernel_rfl) (by kernel_rfl)) (.inl rfl)) hK) ?_
    refine gr_val rfl (by kernel_rfl) (fun a V H K Q hK => op_quiet (quiet_move (.tmp 10) (H.old 10 (by kernel_rfl) (by kernel_rfl)) (.inl rfl)) hK) ?_
    refine gr_val rfl (by kernel_rfl) (fun a V H K Q hK => op_quiet (quiet_neqB (.tmp 36) (.tmp 37) ok ok false 4 4 Tryd.underlying4 (by simp) (H.rel 0 36 (by kernel_rfl) (by kernel_rfl) rfl) (H.rel 1 37 (by kernel_rfl) (by kernel_rfl) rfl) (by kernel_rfl)) hK) ?_
    refine gr_val rfl (by kernel_rfl) (fun a V H K Q hK => op_quiet (quiet_move (.tmp 38) (H.rel 2 38 (by kernel_rfl) (by kernel_rfl) rfl) (.inl rfl)) hK) ?_
    refine gr_onV (j := 3) (d := 39) (want := false) (u := .bool false) rfl (by kernel_rfl) (by kernel_rfl) (fun a V H => (H.rel 3 39 (by kernel_rfl) (by kernel_rfl) rfl)) (by kernel_rfl) (fun a V H K Q hK => op_quiet (quiet_agg _ (.tmp 7) _ 0 (H.old 7 (by kernel_rfl) (by kernel_rfl)) #[.int .u8 ox, .bool ix1, .bool px1, .slice Dx1 jx1 ex1, .bool ix2, .bool px2, .slice Dx2 jx2 ex2] (fun j v hj => X2.out _ (next_below hB H.frame) _ v (part_at 0 ⟨_, rfl⟩ j v hj)) Tryd.underlying31 rfl (by kernel_rfl) (by kernel_rfl)) hK) ?_
    refine gr_onV (j := 3) (d := 39) (want := false) (u := .bool false) rfl (by kernel_rfl) (by kernel_rfl) (fun a V H => (H.rel 3 39 (by kernel_rfl) (by kernel_rfl) rfl)) (by kernel_rfl) (fun a V H K Q hK => op_quiet (quiet_move (.tmp 2) (H.old 2 (by kernel_rfl) (by kernel_rfl)) (.inl rfl)) hK) ?_
    refine gr_onV (j := 3) (d := 39) (want := false) (u := .bool false) rfl (by kernel_rfl) (by kernel_rfl) (fun a V H => (H.rel 3 39 (by kernel_rfl) (by kernel_rfl) rfl)) (by kernel_rfl) (fun a V H K Q hK => op_callK _ #[.agg #[.int .u8 ox, .bool ix1, .bool px1, .slice Dx1 jx1 ex1, .bool ix2, .bool px2, .slice Dx2 jx2 ex2], .slice A5 n5 c5] (by kernel_rfl) (by kernel_rfl) (by kernel_rfl) (map2 (H.rel 4 40 (by kernel_rfl) (by kernel_rfl) rfl) (H.rel 5 41 (by kernel_rfl) (by kernel_rfl) rfl)) (K6.out _ (next_below hB H.frame)) (by kernel_rfl) hK) ?_
    refine gr_onV (j := 3) (d := 39) (want := false) (u := .bool false) rfl (by kernel_rfl) (by kernel_rfl) (fun a V H => (H.rel 3 39 (by kernel_rfl) (by kernel_rfl) rfl)) (by kernel_rfl) (fun a V H K Q hK => op_quiet (quiet_agg _ (.tmp 9) _ 0 (H.old 9 (by kernel_rfl) (by kernel_rfl)) #[.int .u8 oy, .bool iy1, .bool py1, .slice Dy1 jy1 ey1, .bool iy2, .bool py2, .slice Dy2 jy2 ey2] (fun j v hj => X3.out _ (next_below hB H.frame) _ v (part_at 0 ⟨_, rfl⟩ j v hj)) Tryd.underlying31 rfl (by kernel_rfl) (by kernel_rfl)) hK) ?_
    refine gr_onV (j := 3) (d := 39) (want := false) (u := .bool false) rfl (by kernel_rfl) (by kernel_rfl) (fun a V H => (H.rel 3 39 (by kernel_rfl) (by kernel_rfl) rfl)) (by kernel_rfl) (fun a V H K Q hK => op_quiet (quiet_move (.tmp 2) (H.old 2 (by kernel_rfl) (by kernel_rfl)) (.inl rfl)) hK) ?_
    refine gr_onV (j := 3) (d := 39) (want := false) (u := .bool false) rfl (by kernel_rfl) (by kernel_rfl) (fun a V H => (H.rel 3 39 (by kernel_rfl) (by kernel_rfl) rfl)) (by kernel_rfl) (fun a V H K Q hK => op_callK _ #[.agg #[.int .u8 oy, .bool iy1, .bool py1, .slice Dy1 jy1 ey1, .bool iy2, .bool py2, .slice Dy2 jy2 ey2], .slice A5 n5 c5] (by kernel_rfl) (by kernel_rfl) (by kernel_rfl) (map2 (H.rel 7 43 (by kernel_rfl) (by kernel_rfl) rfl) (H.rel 8 44 (by kernel_rfl) (by kernel_rfl) rfl)) (K7.out _ (next_below hB H.frame)) (by kernel_rfl) hK) ?_
    refine gr_onV (j := 3) (d := 39) (want := false) (u := .bool false) rfl (by kernel_rfl) (by kernel_rfl) (fun a V H => (H.rel 3 39 (by kernel_rfl) (by kernel_rfl) rfl)) (by kernel_rfl) (fun a V H K Q hK => op_quiet (quiet_neqB (.tmp 42) (.tmp 45) i1 i1 false 4 4 Tryd.underlying4 (by simp) (H.rel 6 42 (by kernel_rfl) (by kernel_rfl) rfl) (H.rel 9 45 (by kernel_rfl) (by kernel_rfl) rfl) (by kernel_rfl)) hK) ?_
    refine gr_val rfl (by kernel_rfl) (fun a V H K Q hK => op_quiet (quiet_pickF (.tmp 39) (.const (.bool true)) (.tmp 46) (H.rel 3 39 (by kernel_rfl) (by kernel_rfl) rfl) (H.rel 10 46 (by kernel_rfl) (by kernel_rfl) rfl) (by kernel_rfl)) hK) ?_
    refine gr_val rfl (by kernel_rfl) (fun a V H K Q hK => op_quiet (quiet_move (.tmp 47) (H.rel 11 47 (by kernel_rfl) (by kernel_rfl) rfl) (.inl rfl)) hK) ?_
    refine gr_onV (j := 12) (d := 48) (want := false) (u := .bool false) rfl (by kernel_rfl) (by kernel_rfl) (fun a V H => (H.rel 12 48 (by kernel_rfl) (by kernel_rfl) rfl)) (by kernel_rfl) (fun a V H K Q hK => op_quiet (quiet_agg _ (.tmp 7) _ 0 (H.old 7 (by kernel_rfl) (by kernel_rfl)) #[.int .u8 ox, .bool ix1, .bool px1, .slice Dx1 jx1 ex1, .bool ix2, .bool px2, .slice Dx2 jx2 ex2] (fun j v hj => X2.out _ (next_below hB H.frame) _ v (part_at 0 ⟨_, rfl⟩ j v hj)) Tryd.underlying31 rfl (by kernel_rfl) (by kernel_rfl)) hK) ?_
    refine gr_onV (j := 12) (d := 48) (want := false) (u := .bool false) rfl (by kernel_rfl) (by kernel_rfl) (fun a V H => (H.rel 12 48 (by kernel_rfl) (by kernel_rfl) rfl)) (by kernel_rfl) (fun a V H K Q hK => op_callK _ #[.agg #[.int .u8 ox, .bool ix1, .bool px1, .slice Dx1 jx1 ex1, .bool ix2, .bool px2, .slice Dx2 jx2 ex2]] (by kernel_rfl) (by kernel_rfl) (by kernel_rfl) (map1 (H.rel 13 49 (by kernel_rfl) (by kernel_rfl) rfl)) (K8.out _ (next_below hB H.frame)) (by kernel_rfl) hK) ?_
    refine gr_onV (j := 12) (d := 48) (want := false) (u := .bool false) rfl (by kernel_rfl) (by kernel_rfl) (fun a V H => (H.rel 12 48 (by kernel_rfl) (by kernel_rfl) rfl)) (by kernel_rfl) (fun a V H K Q hK => op_quiet (quiet_agg _ (.tmp 9) _ 0 (H.old 9 (by kernel_rfl) (by kernel_rfl)) #[.int .u8 oy, .bool iy1, .bool py1, .slice Dy1 jy1 ey1, .bool iy2, .bool py2, .slice Dy2 jy2 ey2] (fun j v hj => X3.out _ (next_below hB H.frame) _ v (part_at 0 ⟨_, rfl⟩ j v hj)) Tryd.underlying31 rfl (by kernel_rfl) (by kernel_rfl)) hK) ?_
    refine gr_onV (j := 12) (d := 48) (want := false) (u := .bool false) rfl (by kernel_rfl) (by kernel_rfl) (fun a V H => (H.rel 12 48 (by kernel_rfl) (by kernel_rfl) rfl)) (by kernel_rfl) (fun a V H K Q hK => op_callK _ #[.agg #[.int .u8 oy, .bool iy1, .bool py1, .slice Dy1 jy1 ey1, .bool iy2, .bool py2, .slice Dy2 jy2 ey2]] (by kernel_rfl) (by kernel_rfl) (by kernel_rfl) (map1 (H.rel 15 51 (by kernel_rfl) (by kernel_rfl) rfl)) (K9.out _ (next_below hB H.frame)) (by kernel_rfl) hK) ?_
    refine gr_onV (j := 12) (d := 48) (want := false) (u := .bool false) rfl (by kernel_rfl) (by kernel_rfl) (fun a V H => (H.rel 12 48 (by kernel_rfl) (by kernel_rfl) rfl)) (by kernel_rfl) (fun a V H K Q hK => op_quiet (quiet_neqB (.tmp 50) (.tmp 52) e1 e1 false 4 4 Tryd.underlying4 (by simp) (H.rel 14 50 (by kernel_rfl) (by kernel_rfl) rfl) (H.rel 16 52 (by kernel_rfl) (by kernel_rfl) rfl) (by kernel_rfl)) hK) ?_
    refine gr_val rfl (by kernel_rfl) (fun a V H K Q hK => op_quiet (quiet_pickF (.tmp 48) (.const (.bool true)) (.tmp 53) (H.rel 12 48 (by kernel_rfl) (by kernel_rfl) rfl) (H.rel 17 53 (by kernel_rfl) (by kernel_rfl) rfl) (by kernel_rfl)) hK) ?_
    exact gr_nil
  case hf1 =>
  intro x V hF
  have ev0 : x 0 = .bool ok := hF.rel 0 _ rfl
  have ev1 : x 1 = .bool ok := hF.rel 1 _ rfl
  have ev2 : x 2 = .bool false := hF.rel 2 _ rfl
  have ev3 : x 3 = .bool false := hF.rel 3 _ rfl
  have ev4 : x 4 = .agg #[.int .u8 ox, .bool ix1, .bool px1, .slice Dx1 jx1 ex1, .bool ix2, .bool px2, .slice Dx2 jx2 ex2] := hF.rel 4 _ rfl
  have ev5 : x 5 = .slice A5 n5 c5 := hF.rel 5 _ rfl
  have ev6 : x 6 = .bool i1 := hF.rel 6 _ rfl
  have ev7 : x 7 = .agg #[.int .u8 oy, .bool iy1, .bool py1, .slice Dy1 jy1 ey1, .bool iy2, .bool py2, .slice Dy2 jy2 ey2] := hF.rel 7 _ rfl
  have ev8 : x 8 = .slice A5 n5 c5 := hF.rel 8 _ rfl
  have ev9 : x 9 = .bool i1 := hF.rel 9 _ rfl
  have ev10 : x 10 = .bool false := hF.rel 10 _ rfl
  have ev11 : x 11 = .bool false := hF.rel 11 _ rfl
  have ev12 : x 12 = .bool false := hF.rel 12 _ rfl
  have ev13 : x 13 = .agg #[.int .u8 ox, .bool ix1, .bool px1, .slice Dx1 jx1 ex1, .bool ix2, .bool px2, .slice Dx2 jx2 ex2] := hF.rel 13 _ rfl
  have ev14 : x 14 = .bool e1 := hF.rel 14 _ rfl
  have ev15 : x 15 = .agg #[.int .u8 oy, .bool iy1, .bool py1, .slice Dy1 jy1 ey1, .bool iy2, .bool py2, .slice Dy2 jy2 ey2] := hF.rel 15 _ rfl
  have ev16 : x 16 = .bool e1 := hF.rel 16 _ rfl
  have ev17 : x 17 = .bool false := hF.rel 17 _ rfl
  have ev18 : x 18 = .bool false := hF.rel 18 _ rfl
  have hbf := hF.frame
  clear hF
  simp only [Sch.finL, List.setIfInBounds_toArray, List.set_cons_zero, List.set_cons_succ, ev0, ev1, ev2, ev3, ev4, ev5, ev6, ev7, ev8, ev9, ev10, ev11, ev12, ev13, ev14, ev15, ev16, ev17, ev18]
  clear ev0 ev1 ev2 ev3 ev4 ev5 ev6 ev7 ev8 ev9 ev10 ev11 ev12 ev13 ev14 ev15 ev16 ev17 ev18
  refine tail_nil ?_
  have hB' := next_below hB hbf
  clear hbf
  have x0_0 := X0.out _ hB' 0 _ rfl
  have x0_1 := X0.out _ hB' 1 _ rfl
  have x0_2 := X0.out _ hB' 2 _ rfl
  have x0_3 := X0.out _ hB' 3 _ rfl
  have x0_4 := X0.out _ hB' 4 _ rfl
  have x0_5 := X0.out _ hB' 5 _ rfl
  have x0_6 := X0.out _ hB' 6 _ rfl
  have x1_0 := X1.out _ hB' 0 _ rfl
  have x1_1 := X1.out _ hB' 1 _ rfl
  have x1_2 := X1.out _ hB' 2 _ rfl
  have x1_3 := X1.out _ hB' 3 _ rfl
  have x1_4 := X1.out _ hB' 4 _ rfl
  have x1_5 := X1.out _ hB' 5 _ rfl
  have x1_6 := X1.out _ hB' 6 _ rfl
  have x2_0 := X2.out _ hB' 0 _ rfl
  have x2_1 := X2.out _ hB' 1 _ rfl
  have x2_2 := X2.out _ hB' 2 _ rfl
  have x2_3 := X2.out _ hB' 3 _ rfl
  have x2_4 := X2.out _ hB' 4 _ rfl
  have x2_5 := X2.out _ hB' 5 _ rfl
  have x2_6 := X2.out _ hB' 6 _ rfl
  have x3_0 := X3.out _ hB' 0 _ rfl
  have x3_1 := X3.out _ hB' 1 _ rfl
  have x3_2 := X3.out _ hB' 2 _ rfl
  have x3_3 := X3.out _ hB' 3 _ rfl
  have x3_4 := X3.out _ hB' 4 _ rfl
  have x3_5 := X3.out _ hB' 5 _ rfl
  have x3_6 := X3.out _ hB' 6 _ rfl
  go_upto_region 8 with (refine wpList_store_row rfl 31 (.tmp 11) (.tmp 57) rfl V.heap.size _ rfl rfl 31 #[.int .u8 0, .bool false, .bool false, .slice none 0 0, .bool false, .bool false, .slice none 0 0] (Blk.new _ _ _) infoRg rfl (by simp [Value.oneCell']) ?_)
  clear x0_0 x0_1 x0_2 x0_3 x0_4 x0_5 x0_6 x1_0 x1_1 x1_2 x1_3 x1_4 x1_5 x1_6 x2_0 x2_1 x2_2 x2_3 x2_4 x2_5 x2_6 x3_0 x3_1 x3_2 x3_3 x3_4 x3_5 x3_6
  obtain ⟨wz, hwz⟩ : ∃ w9, w9 = (V.alloc (.cells #[.int .u8 0, .bool false, .bool false, .slice none 0 0, .bool false, .bool false, .slice none 0 0] 31)).setRow V.heap.size #[.int .u8 oa, .bool false, .bool false, .slice none 0 0, .bool false, .bool false, .slice none 0 0] := ⟨_, rfl⟩
  have hbn : Below V.heap.size V wz := by rw [hwz]; exact below_row ((Below.refl _ _).alloc (Nat.le_refl _) _) (Nat.le_refl _) _
  have hbx : Blk wz V.heap.size 31 #[.int .u8 oa, .bool false, .bool false, .slice none 0 0, .bool false, .bool false, .slice none 0 0] := by rw [hwz]; exact (Blk.new _ _ _).row _
  rw [← hwz]
  have hB9 := next_below hB' hbn
  have X4 : Hid (∀ W, Below wz.heap.size wz W → ∀ k u, (#[.int .u8 oa, .bool false, .bool false, .slice none 0 0, .bool false, .bool false, .slice none 0 0] : Array Value)[k]? = some u → W.cell? ⟨V.heap.size, k, none⟩ = some u) := fun W hW k u hk => cell_below hW ((hbx.cell k).trans hk) hbx.lt
  have HB9 := Lib.hid (next_below HB0.out hB9)
  generalize V.heap.size = gz at *
  replace X0 := Lib.hid (fun W (hW : Below wz.heap.size wz W) => X0.out W (next_below hB9 hW))
  replace X1 := Lib.hid (fun W (hW : Below wz.heap.size wz W) => X1.out W (next_below hB9 hW))
  replace KA := Lib.hid (fun W (hW : Below wz.heap.size wz W) => KA.out W (next_below hB9 hW))
  replace K1 := Lib.hid (fun W (hW : Below wz.heap.size wz W) => K1.out W (next_below hB9 hW))
  replace K2 := Lib.hid (fun W (hW : Below wz.heap.size wz W) => K2.out W (next_below hB9 hW))
  replace K3 := Lib.hid (fun W (hW : Below wz.heap.size wz W) => K3.out W (next_below hB9 hW))
  replace K4 := Lib.hid (fun W (hW : Below wz.heap.size wz W) => K4.out W (next_below hB9 hW))
  replace K5 := Lib.hid (fun W (hW : Below wz.heap.size wz W) => K5.out W (next_below hB9 hW))
  replace HB0 := HB9
  clear hB9 HB9 hB' hbn hbx hwz hB
  have hB : Below wz.heap.size wz wz := Below.refl _ _
  cases ma
  · simp only [Bool.false_and] at K1
    try simp only [Act.put]
    refine wp_R [58, 59, 60, 61, 62, 63, 64, 65, 66, 67, 68, 69, 70, 71, 72, 73, 74, 75, 76, 77, 78, 79, 80, 6] [Rk.val (.agg #[.int .u8 oa, .bool false, .bool false, .slice none 0 0, .bool false, .bool false, .slice none 0 0]), Rk.val (.slice A5 n5 c5), Rk.val (.bool false), Rk.val (.agg #[.int .u8 oa, .bool false, .bool false, .slice none 0 0, .bool false, .bool false, .slice none 0 0]), Rk.val (.bool false), Rk.val (.bool false), Rk.val undef, Rk.val undef, Rk.val undef, Rk.val undef, Rk.val (.bool false), Rk.val (.bool true), Rk.val (.bool true), Rk.val (.agg #[.int .u8 oa, .bool ia1, .bool pa1, .slice A1 n1 c1, .bool ia2, .bool pa2, .slice A2 n2 c2]), Rk.val (.agg #[.int .u8 oa, .bool false, .bool false, .slice none 0 0, .bool false, .bool false, .slice none 0 0]), Rk.val (.bool mr), Rk.val (.agg #[.int .u8 oa, .bool ia1, .bool pa1, .slice A1 n1 c1, .bool ia2, .bool pa2, .slice A2 n2 c2]), Rk.val (.bool mr), Rk.val (.bool true), Rk.val (.bool true), Rk.val (.bool true), Rk.val (.bool true), Rk.val (.bool true), Rk.val (.bool true)] rfl (by kernel_rfl) (by kernel_rfl) (by kernel_rfl) (by kernel_rfl) ?hg1 _ (by rfl) ?hf1
    case hg1 =>
      refine gr_val rfl (by kernel_rfl) (fun a V H K Q hK => op_quiet (quiet_agg _ (.tmp 11) _ 0 (H.old 11 (by kernel_rfl) (by kernel_rfl)) #[.int .u8 oa, .bool false, .bool false, .slice none 0 0, .bool false, .bool false, .slice none 0 0] (fun j v hj => X4.out _ (next_below hB H.frame) _ v (part_at 0 ⟨_, rfl⟩ j v hj)) Tryd.underlying31 rfl (by kernel_rfl) (by kernel_rfl)) hK) ?_
      refine gr_val rfl (by kernel_rfl) (fun a V H K Q hK => op_quiet (quiet_move (.tmp 2) (H.old 2 (by kernel_rfl) (by kernel_rfl)) (.inl rfl)) hK) ?_
      refine gr_val rfl (by kernel_rfl) (fun a V H K Q hK => op_callK _ #[.agg #[.int .u8 oa, .bool false, .bool false, .slice none 0 0, .bool false, .bool false, .slice none 0 0], .slice A5 n5 c5] (by kernel_rfl) (by kernel_rfl) (by kernel_rfl) (map2 (H.rel 0 58 (by kernel_rfl) (by kernel_rfl) rfl) (H.rel 1 59 (by kernel_rfl) (by kernel_rfl) rfl)) (K1.out _ (next_below hB H.frame)) (by kernel_rfl) hK) ?_
      refine gr_val rfl (by kernel_rfl) (fun a V H K Q hK => op_quiet (quiet_agg _ (.tmp 11) _ 0 (H.old 11 (by kernel_rfl) (by kernel_rfl)) #[.int .u8 oa, .bool false, .bool false, .slice none 0 0, .bool false, .bool false, .slice none 0 0] (fun j v hj => X4.out _ (next_below hB H.frame) _ v (part_at 0 ⟨_, rfl⟩ j v hj)) Tryd.underlying31 rfl (by kernel_rfl) (by kernel_rfl)) hK) ?_
      refine gr_val rfl (by kernel_rfl) (fun a V H K Q hK => op_callK _ #[.agg #[.int .u8 oa, .bool false, .bool false, .slice none 0 0, .bool false, .bool false, .slice none 0 0]] (by kernel_rfl) (by kernel_rfl) (by kernel_rfl) (map1 (H.rel 3 61 (by kernel_rfl) (by kernel_rfl) rfl)) (K2.out _ (next_below hB H.frame)) (by kernel_rfl) hK) ?_
      refine gr_val rfl (by kernel_rfl) (fun a V H K Q hK => op_quiet (quiet_move (.tmp 62) (H.rel 4 62 (by kernel_rfl) (by kernel_rfl) rfl) (.inl rfl)) hK) ?_
      refine gr_offV (j := 5) (d := 63) (want := true) (u := .bool false) rfl (by kernel_rfl) (by kernel_rfl) (fun a V H => (H.rel 5 63 (by kernel_rfl) (by kernel_rfl) rfl)) (by kernel_rfl) ?_
      refine gr_offV (j := 5) (d := 63) (want := true) (u := .bool false) rfl (by kernel_rfl) (by kernel_rfl) (fun a V H => (H.rel 5 63 (by kernel_rfl) (by kernel_rfl) rfl)) (by kernel_rfl) ?_
      refine gr_offV (j := 5) (d := 63) (want := true) (u := .bool false) rfl (by kernel_rfl) (by kernel_rfl) (fun a V H => (H.rel 5 63 (by kernel_rfl) (by kernel_rfl) rfl)) (by kernel_rfl) ?_
      refine gr_offV (j := 5) (d := 63) (want := true) (u := .bool false) rfl (by kernel_rfl) (by kernel_rfl) (fun a V H => (H.rel 5 63 (by kernel_rfl) (by kernel_rfl) rfl)) (by kernel_rfl) ?_
      refine gr_val rfl (by kernel_rfl) (fun a V H K Q hK => op_quiet (quiet_pickF (.tmp 63) (.tmp 67) (.const (.bool false)) (H.rel 5 63 (by kernel_rfl) (by kernel_rfl) rfl) (show a.eval (.const (.bool false)) = .bool false from rfl) (by kernel_rfl)) hK) ?_
      refine gr_val rfl (by kernel_rfl) (fun a V H K Q hK => op_quiet (quiet_eqlB (.tmp 60) (.tmp 68) false false true 4 4 Tryd.underlying4 rfl (H.rel 2 60 (by kernel_rfl) (by kernel_rfl) rfl) (H.rel 10 68 (by kernel_rfl) (by kernel_rfl) rfl) (by kernel_rfl)) hK) ?_
      refine gr_val rfl (by kernel_rfl) (fun a V H K Q hK => op_quiet (quiet_move (.tmp 69) (H.rel 11 69 (by kernel_rfl) (by kernel_rfl) rfl) (.inl rfl)) hK) ?_
      refine gr_onV (j := 12) (d := 70) (want := true) (u := .bool true) rfl (by kernel_rfl) (by kernel_rfl) (fun a V H => (H.rel 12 70 (by kernel_rfl) (by kernel_rfl) rfl)) (by kernel_rfl) (fun a V H K Q hK => op_quiet (quiet_agg _ (.tmp 3) _ 0 (H.old 3 (by kernel_rfl) (by kernel_rfl)) #[.int .u8 oa, .bool ia1, .bool pa1, .slice A1 n1 c1, .bool ia2, .bool pa2, .slice A2 n2 c2] (fun j v hj => X0.out _ (next_below hB H.frame) _ v (part_at 0 ⟨_, rfl⟩ j v hj)) Tryd.underlying31 rfl (by kernel_rfl) (by kernel_rfl)) hK) ?_
      refine gr_onV (j := 12) (d := 70) (want := true) (u := .bool true) rfl (by kernel_rfl) (by kernel_rfl) (fun a V H => (H.rel 12 70 (by kernel_rfl) (by kernel_rfl) rfl)) (by kernel_rfl) (fun a V H K Q hK => op_quiet (quiet_agg _ (.tmp 11) _ 0 (H.old 11 (by kernel_rfl) (by kernel_rfl)) #[.int .u8 oa, .bool false, .bool false, .slice none 0 0, .bool false, .bool false, .slice none 0 0] (fun j v hj => X4.out _ (next_below hB H.frame) _ v (part_at 0 ⟨_, rfl⟩ j v hj)) Tryd.underlying31 rfl (by kernel_rfl) (by kernel_rfl)) hK) ?_
      refine gr_onV (j := 12) (d := 70) (want := true) (u := .bool true) rfl (by kernel_rfl) (by kernel_rfl) (fun a V H => (H.rel 12 70 (by kernel_rfl) (by kernel_rfl) rfl)) (by kernel_rfl) (fun a V H K Q hK => op_callK _ #[.agg #[.int .u8 oa, .bool ia1, .bool pa1, .slice A1 n1 c1, .bool ia2, .bool pa2, .slice A2 n2 c2], .agg #[.int .u8 oa, .bool false, .bool false, .slice none 0 0, .bool false, .bool false, .slice none 0 0]] (by kernel_rfl) (by kernel_rfl) (by kernel_rfl) (map2 (H.rel 13 71 (by kernel_rfl) (by kernel_rfl) rfl) (H.rel 14 72 (by kernel_rfl) (by kernel_rfl) rfl)) (K4.out _ (next_below hB H.frame)) (by kernel_rfl) hK) ?_
      refine gr_onV (j := 12) (d := 70) (want := true) (u := .bool true) rfl (by kernel_rfl) (by kernel_rfl) (fun a V H => (H.rel 12 70 (by kernel_rfl) (by kernel_rfl) rfl)) (by kernel_rfl) (fun a V H K Q hK => op_quiet (quiet_agg _ (.tmp 3) _ 0 (H.old 3 (by kernel_rfl) (by kernel_rfl)) #[.int .u8 oa, .bool ia1, .bool pa1, .slice A1 n1 c1, .bool ia2, .bool pa2, .slice A2 n2 c2] (fun j v hj => X0.out _ (next_below hB H.frame) _ v (part_at 0 ⟨_, rfl⟩ j v hj)) Tryd.underlying31 rfl (by kernel_rfl) (by kernel_rfl)) hK) ?_
      refine gr_onV (j := 12) (d := 70) (want := true) (u := .bool true) rfl (by kernel_rfl) (by kernel_rfl) (fun a V H => (H.rel 12 70 (by kernel_rfl) (by kernel_rfl) rfl)) (by kernel_rfl) (fun a V H K Q hK => op_callK _ #[.agg #[.int .u8 oa, .bool ia1, .bool pa1, .slice A1 n1 c1, .bool ia2, .bool pa2, .slice A2 n2 c2]] (by kernel_rfl) (by kernel_rfl) (by kernel_rfl) (map1 (H.rel 16 74 (by kernel_rfl) (by kernel_rfl) rfl)) (K5.out _ (next_below hB H.frame)) (by kernel_rfl) hK) ?_
      refine gr_onV (j := 12) (d := 70) (want := true) (u := .bool true) rfl (by kernel_rfl) (by kernel_rfl) (fun a V H => (H.rel 12 70 (by kernel_rfl) (by kernel_rfl) rfl)) (by kernel_rfl) (fun a V H K Q hK => op_quiet (quiet_eqlB (.tmp 73) (.tmp 75) mr mr true 4 4 Tryd.underlying4 (by simp) (H.rel 15 73 (by kernel_rfl) (by kernel_rfl) rfl) (H.rel 17 75 (by kernel_rfl) (by kernel_rfl) rfl) (by kernel_rfl)) hK) ?_
      refine gr_val rfl (by kernel_rfl) (fun a V H K Q hK => op_quiet (quiet_pickT (.tmp 70) (.tmp 76) (.const (.bool false)) (H.rel 12 70 (by kernel_rfl) (by kernel_rfl) rfl) (H.rel 18 76 (by kernel_rfl) (by kernel_rfl) rfl) (by kernel_rfl)) hK) ?_
      refine gr_val rfl (by kernel_rfl) (fun a V H K Q hK => op_quiet (quiet_move (.tmp 77) (H.rel 19 77 (by kernel_rfl) (by kernel_rfl) rfl) (.inl rfl)) hK) ?_
      refine gr_onV (j := 20) (d := 78) (want := true) (u := .bool true) rfl (by kernel_rfl) (by kernel_rfl) (fun a V H => (H.rel 20 78 (by kernel_rfl) (by kernel_rfl) rfl)) (by kernel_rfl) (fun a V H K Q hK => op_callK _ #[] (by kernel_rfl) (by kernel_rfl) (by kernel_rfl) (map0 ) (KA.out _ (next_below hB H.frame)) (by kernel_rfl) hK) ?_
      refine gr_val rfl (by kernel_rfl) (fun a V H K Q hK => op_quiet (quiet_pickT (.tmp 78) (.tmp 79) (.const (.bool false)) (H.rel 20 78 (by kernel_rfl) (by kernel_rfl) rfl) (H.rel 21 79 (by kernel_rfl) (by kernel_rfl) rfl) (by kernel_rfl)) hK) ?_
      refine gr_val rfl (by kernel_rfl) (fun a V H K Q hK => op_quiet (quiet_move (.tmp 80) (H.rel 22 80 (by kernel_rfl) (by kernel_rfl) rfl) (.inr rfl)) hK) ?_
      exact gr_nil
    case hf1 =>
    intro x V hF
    have ev0 : x 0 = .agg #[.int .u8 oa, .bool false, .bool false, .slice none 0 0, .bool false, .bool false, .slice none 0 0] := hF.rel 0 _ rfl
    have ev1 : x 1 = .slice A5 n5 c5 := hF.rel 1 _ rfl
    have ev2 : x 2 = .bool false := hF.rel 2 _ rfl
    have ev3 : x 3 = .agg #[.int .u8 oa, .bool false, .bool false, .slice none 0 0, .bool false, .bool false, .slice none 0 0] := hF.rel 3 _ rfl
    have ev4 : x 4 = .bool false := hF.rel 4 _ rfl
    have ev5 : x 5 = .bool false := hF.rel 5 _ rfl
    have ev6 : x 6 = undef := hF.rel 6 _ rfl
    have ev7 : x 7 = undef := hF.rel 7 _ rfl
    have ev8 : x 8 = undef := hF.rel 8 _ rfl
    have ev9 : x 9 = undef := hF.rel 9 _ rfl
    have ev10 : x 10 = .bool false := hF.rel 10 _ rfl
    have ev11 : x 11 = .bool true := hF.rel 11 _ rfl
    have ev12 : x 12 = .bool true := hF.rel 12 _ rfl
    have ev13 : x 13 = .agg #[.int .u8 oa, .bool ia1, .bool pa1, .slice A1 n1 c1, .bool ia2, .bool pa2, .slice A2 n2 c2] := hF.rel 13 _ rfl
    have ev14 : x 14 = .agg #[.int .u8 oa, .bool false, .bool false, .slice none 0 0, .bool false, .bool false, .slice none 0 0] := hF.rel 14 _ rfl
    have ev15 : x 15 = .bool mr := hF.rel 15 _ rfl
    have ev16 : x 16 = .agg #[.int .u8 oa, .bool ia1, .bool pa1, .slice A1 n1 c1, .bool ia2, .bool pa2, .slice A2 n2 c2] := hF.rel 16 _ rfl
    have ev17 : x 17 = .bool mr := hF.rel 17 _ rfl
    have ev18 : x 18 = .bool true := hF.rel 18 _ rfl
    have ev19 : x 19 = .bool true := hF.rel 19 _ rfl
    have ev20 : x 20 = .bool true := hF.rel 20 _ rfl
    have ev21 : x 21 = .bool true := hF.rel 21 _ rfl
    have ev22 : x 22 = .bool true := hF.rel 22 _ rfl
    have ev23 : x 23 = .bool true := hF.rel 23 _ rfl
    have hbf := hF.frame
    clear hF
    simp only [Sch.finL, List.setIfInBounds_toArray, List.set_cons_zero, List.set_cons_succ, ev0, ev1, ev2, ev3, ev4, ev5, ev6, ev7, ev8, ev9, ev10, ev11, ev12, ev13, ev14, ev15, ev16, ev17, ev18, ev19, ev20, ev21, ev22, ev23]
    clear ev0 ev1 ev2 ev3 ev4 ev5 ev6 ev7 ev8 ev9 ev10 ev11 ev12 ev13 ev14 ev15 ev16 ev17 ev18 ev19 ev20 ev21 ev22 ev23
    refine tail_nil ?_
    go_wp2_with fail
    go_ret
    exact ⟨rfl, next_below HB0.out (next_below hB hbf)⟩
  · simp only [Bool.true_and] at K1
    try simp only [Act.put]
    refine wp_R [58, 59, 60, 61, 62, 63, 64, 65, 66, 67, 68, 69, 70, 71, 72, 73, 74, 75, 76, 77, 78, 79, 80, 6] [Rk.val (.agg #[.int .u8 oa, .bool false, .bool false, .slice none 0 0, .bool false, .bool false, .slice none 0 0]), Rk.val (.slice A5 n5 c5), Rk.val (.bool vi), Rk.val (.agg #[.int .u8 oa, .bool false, .bool false, .slice none 0 0, .bool false, .bool false, .slice none 0 0]), Rk.val (.bool true), Rk.val (.bool true), Rk.val (.pointer (some ⟨w.heap.size, 0, none⟩)), Rk.val (.int .u8 oa), Rk.val (.slice A5 n5 c5), Rk.val (.bool vi), Rk.val (.bool vi), Rk.val (.bool true), Rk.val (.bool true), Rk.val (.agg #[.int .u8 oa, .bool ia1, .bool pa1, .slice A1 n1 c1, .bool ia2, .bool pa2, .slice A2 n2 c2]), Rk.val (.agg #[.int .u8 oa, .bool false, .bool false, .slice none 0 0, .bool false, .bool false, .slice none 0 0]), Rk.val (.bool mr), Rk.val (.agg #[.int .u8 oa, .bool ia1, .bool pa1, .slice A1 n1 c1, .bool ia2, .bool pa2, .slice A2 n2 c2]), Rk.val (.bool mr), Rk.val (.bool true), Rk.val (.bool true), Rk.val (.bool true), Rk.val (.bool true), Rk.val (.bool true), Rk.val (.bool true)] rfl (by kernel_rfl) (by kernel_rfl) (by kernel_rfl) (by kernel_rfl) ?hg1 _ (by rfl) ?hf1
    case hg1 =>
      refine gr_val rfl (by kernel_rfl) (fun a V H K Q hK => op_quiet (quiet_agg _ (.tmp 11) _ 0 (H.old 11 (by kernel_rfl) (by kernel_rfl)) #[.int .u8 oa, .bool false, .bool false, .slice none 0 0, .bool false, .bool false, .slice none 0 0] (fun j v hj => X4.out _ (next_below hB H.frame) _ v (part_at 0 ⟨_, rfl⟩ j v hj)) Tryd.underlying31 rfl (by kernel_rfl) (by kernel_rfl)) hK) ?_
      refine gr_val rfl (by kernel_rfl) (fun a V H K Q hK => op_quiet (quiet_move (.tmp 2) (H.old 2 (by kernel_rfl) (by kernel_rfl)) (.inl rfl)) hK) ?_
      refine gr_val rfl (by kernel_rfl) (fun a V H K Q hK => op_callK _ #[.agg #[.int .u8 oa, .bool false, .bool false, .slice none 0 0, .bool false, .bool false, .slice none 0 0], .slice A5 n5 c5] (by kernel_rfl) (by kernel_rfl) (by kernel_rfl) (map2 (H.rel 0 58 (by kernel_rfl) (by kernel_rfl) rfl) (H.rel 1 59 (by kernel_rfl) (by kernel_rfl) rfl)) (K1.out _ (next_below hB H.frame)) (by kernel_rfl) hK) ?_
      refine gr_val rfl (by kernel_rfl) (fun a V H K Q hK => op_quiet (quiet_agg _ (.tmp 11) _ 0 (H.old 11 (by kernel_rfl) (by kernel_rfl)) #[.int .u8 oa, .bool false, .bool false, .slice none 0 0, .bool false, .bool false, .slice none 0 0] (fun j v hj => X4.out _ (next_below hB H.frame) _ v (part_at 0 ⟨_, rfl⟩ j v hj)) Tryd.underlying31 rfl (by kernel_rfl) (by kernel_rfl)) hK) ?_
      refine gr_val rfl (by kernel_rfl) (fun a V H K Q hK => op_callK _ #[.agg #[.int .u8 oa, .bool false, .bool false, .slice none 0 0, .bool false, .bool false, .slice none 0 0]] (by kernel_rfl) (by kernel_rfl) (by kernel_rfl) (map1 (H.rel 3 61 (by kernel_rfl) (by kernel_rfl) rfl)) (K2.out _ (next_below hB H.frame)) (by kernel_rfl) hK) ?_
      refine gr_val rfl (by kernel_rfl) (fun a V H K Q hK => op_quiet (quiet_move (.tmp 62) (H.rel 4 62 (by kernel_rfl) (by kernel_rfl) rfl) (.inl rfl)) hK) ?_
      refine gr_onV (j := 5) (d := 63) (want := true) (u := .bool true) rfl (by kernel_rfl) (by kernel_rfl) (fun a V H => (H.rel 5 63 (by kernel_rfl) (by kernel_rfl) rfl)) (by kernel_rfl) (fun a V H K Q hK => op_quiet (quiet_fld _ (.tmp 3) 0 _ _ (H.old 3 (by kernel_rfl) (by kernel_rfl)) (fR0 _ 0) (by kernel_rfl)) hK) ?_
      refine gr_onV (j := 5) (d := 63) (want := true) (u := .bool true) rfl (by kernel_rfl) (by kernel_rfl) (fun a V H => (H.rel 5 63 (by kernel_rfl) (by kernel_rfl) rfl)) (by kernel_rfl) (fun a V H K Q hK => op_quiet (quiet_cell _ (.tmp 64) _ (H.rel 6 64 (by kernel_rfl) (by kernel_rfl) rfl) Tryd.underlying5 rfl (X0.out _ (next_below hB H.frame) 0 _ rfl) (by kernel_rfl)) hK) ?_
      refine gr_onV (j := 5) (d := 63) (want := true) (u := .bool true) rfl (by kernel_rfl) (by kernel_rfl) (fun a V H => (H.rel 5 63 (by kernel_rfl) (by kernel_rfl) rfl)) (by kernel_rfl) (fun a V H K Q hK => op_quiet (quiet_move (.tmp 2) (H.old 2 (by kernel_rfl) (by kernel_rfl)) (.inl rfl)) hK) ?_
      refine gr_onV (j := 5) (d := 63) (want := true) (u := .bool true) rfl (by kernel_rfl) (by kernel_rfl) (fun a V H => (H.rel 5 63 (by kernel_rfl) (by kernel_rfl) rfl)) (by kernel_rfl) (fun a V H K Q hK => op_callK _ #[.int .u8 oa, .slice A5 n5 c5] (by kernel_rfl) (by kernel_rfl) (by kernel_rfl) (map2 (H.rel 7 65 (by kernel_rfl) (by kernel_rfl) rfl) (H.rel 8 66 (by kernel_rfl) (by kernel_rfl) rfl)) (K3.out _ (next_below hB H.frame)) (by kernel_rfl) hK) ?_
      refine gr_val rfl (by kernel_rfl) (fun a V H K Q hK => op_quiet (quiet_pickT (.tmp 63) (.tmp 67) (.const (.bool false)) (H.rel 5 63 (by kernel_rfl) (by kernel_rfl) rfl) (H.rel 9 67 (by kernel_rfl) (by kernel_rfl) rfl) (by kernel_rfl)) hK) ?_
      refine gr_val rfl (by kernel_rfl) (fun a V H K Q hK => op_quiet (quiet_eqlB (.tmp 60) (.tmp 68) vi vi true 4 4 Tryd.underlying4 (by simp) (H.rel 2 60 (by kernel_rfl) (by kernel_rfl) rfl) (H.rel 10 68 (by kernel_rfl) (by kernel_rfl) rfl) (by kernel_rfl)) hK) ?_
      refine gr_val rfl (by kernel_rfl) (fun a V H K Q hK => op_quiet (quiet_move (.tmp 69) (H.rel 11 69 (by kernel_rfl) (by kernel_rfl) rfl) (.inl rfl)) hK) ?_
      refine gr_onV (j := 12) (d := 70) (want := true) (u := .bool true) rfl (by kernel_rfl) (by kernel_rfl) (fun a V H => (H.rel 12 70 (by kernel_rfl) (by kernel_rfl) rfl)) (by kernel_rfl) (fun a V H K Q hK => op_quiet (quiet_agg _ (.tmp 3) _ 0 (H.old 3 (by kernel_rfl) (by kernel_rfl)) #[.int .u8 oa, .bool ia1, .bool pa1, .slice A1 n1 c1, .bool ia2, .bool pa2, .slice A2 n2 c2] (fun j v hj => X0.out _ (next_below hB H.frame) _ v (part_at 0 ⟨_, rfl⟩ j v hj)) Tryd.underlying31 rfl (by kernel_rfl) (by kernel_rfl)) hK) ?_
      refine gr_onV (j := 12) (d := 70) (want := true) (u := .bool true) rfl (by kernel_rfl) (by kernel_rfl) (fun a V H => (H.rel 12 70 (by kernel_rfl) (by kernel_rfl) rfl)) (by kernel_rfl) (fun a V H K Q hK => op_quiet (quiet_agg _ (.tmp 11) _ 0 (H.old 11 (by kernel_rfl) (by kernel_rfl)) #[.int .u8 oa, .bool false, .bool false, .slice none 0 0, .bool false, .bool false, .slice none 0 0] (fun j v hj => X4.out _ (next_below hB H.frame) _ v (part_at 0 ⟨_, rfl⟩ j v hj)) Tryd.underlying31 rfl (by kernel_rfl) (by kernel_rfl)) hK) ?_
      refine gr_onV (j := 12) (d := 70) (want := true) (u := .bool true) rfl (by kernel_rfl) (by kernel_rfl) (fun a V H => (H.rel 12 70 (by kernel_rfl) (by kernel_rfl) rfl)) (by kernel_rfl) (fun a V H K Q hK => op_callK _ #[.agg #[.int .u8 oa, .bool ia1, .bool pa1, .slice A1 n1 c1, .bool ia2, .bool pa2, .slice A2 n2 c2], .agg #[.int .u8 oa, .bool false, .bool false, .slice none 0 0, .bool false, .bool false, .slice none 0 0]] (by kernel_rfl) (by kernel_rfl) (by kernel_rfl) (map2 (H.rel 13 71 (by kernel_rfl) (by kernel_rfl) rfl) (H.rel 14 72 (by kernel_rfl) (by kernel_rfl) rfl)) (K4.out _ (next_below hB H.frame)) (by kernel_rfl) hK) ?_
      refine gr_onV (j := 12) (d := 70) (want := true) (u := .bool true) rfl (by kernel_rfl) (by kernel_rfl) (fun a V H => (H.rel 12 70 (by kernel_rfl) (by kernel_rfl) rfl)) (by kernel_rfl) (fun a V H K Q hK => op_quiet (quiet_agg _ (.tmp 3) _ 0 (H.old 3 (by kernel_rfl) (by kernel_rfl)) #[.int .u8 oa, .bool ia1, .bool pa1, .slice A1 n1 c1, .bool ia2, .bool pa2, .slice A2 n2 c2] (fun j v hj => X0.out _ (next_below hB H.frame) _ v (part_at 0 ⟨_, rfl⟩ j v hj)) Tryd.underlying31 rfl (by kernel_rfl) (by kernel_rfl)) hK) ?_
      refine gr_onV (j := 12) (d := 70) (want := true) (u := .bool true) rfl (by kernel_rfl) (by kernel_rfl) (fun a V H => (H.rel 12 70 (by kernel_rfl) (by kernel_rfl) rfl)) (by kernel_rfl) (fun a V H K Q hK => op_callK _ #[.agg #[.int .u8 oa, .bool ia1, .bool pa1, .slice A1 n1 c1, .bool ia2, .bool pa2, .slice A2 n2 c2]] (by kernel_rfl) (by kernel_rfl) (by kernel_rfl) (map1 (H.rel 16 74 (by kernel_rfl) (by kernel_rfl) rfl)) (K5.out _ (next_below hB H.frame)) (by kernel_rfl) hK) ?_
      refine gr_onV (j := 12) (d := 70) (want := true) (u := .bool true) rfl (by kernel_rfl) (by kernel_rfl) (fun a V H => (H.rel 12 70 (by kernel_rfl) (by kernel_rfl) rfl)) (by kernel_rfl) (fun a V H K Q hK => op_quiet (quiet_eqlB (.tmp 73) (.tmp 75) mr mr true 4 4 Tryd.underlying4 (by simp) (H.rel 15 73 (by kernel_rfl) (by kernel_rfl) rfl) (H.rel 17 75 (by kernel_rfl) (by kernel_rfl) rfl) (by kernel_rfl)) hK) ?_
      refine gr_val rfl (by kernel_rfl) (fun a V H K Q hK => op_quiet (quiet_pickT (.tmp 70) (.tmp 76) (.const (.bool false)) (H.rel 12 70 (by kernel_rfl) (by kernel_rfl) rfl) (H.rel 18 76 (by kernel_rfl) (by kernel_rfl) rfl) (by kernel_rfl)) hK) ?_
      refine gr_val rfl (by kernel_rfl) (fun a V H K Q hK => op_quiet (quiet_move (.tmp 77) (H.rel 19 77 (by kernel_rfl) (by kernel_rfl) rfl) (.inl rfl)) hK) ?_
      refine gr_onV (j := 20) (d := 78) (want := true) (u := .bool true) rfl (by kernel_rfl) (by kernel_rfl) (fun a V H => (H.rel 20 78 (by kernel_rfl) (by kernel_rfl) rfl)) (by kernel_rfl) (fun a V H K Q hK => op_callK _ #[] (by kernel_rfl) (by kernel_rfl) (by kernel_rfl) (map0 ) (KA.out _ (next_below hB H.frame)) (by kernel_rfl) hK) ?_
      refine gr_val rfl (by kernel_rfl) (fun a V H K Q hK => op_quiet (quiet_pickT (.tmp 78) (.tmp 79) (.const (.bool false)) (H.rel 20 78 (by kernel_rfl) (by kernel_rfl) rfl) (H.rel 21 79 (by kernel_rfl) (by kernel_rfl) rfl) (by kernel_rfl)) hK) ?_
      refine gr_val rfl (by kernel_rfl) (fun a V H K Q hK => op_quiet (quiet_move (.tmp 80) (H.rel 22 80 (by kernel_rfl) (by kernel_rfl) rfl) (.inr rfl)) hK) ?_
      exact gr_nil
    case hf1 =>
    intro x V hF
    have ev0 : x 0 = .agg #[.int .u8 oa, .bool false, .bool false, .slice none 0 0, .bool false, .bool false, .slice none 0 0] := hF.rel 0 _ rfl
    have ev1 : x 1 = .slice A5 n5 c5 := hF.rel 1 _ rfl
    have ev2 : x 2 = .bool vi := hF.rel 2 _ rfl
    have ev3 : x 3 = .agg #[.int .u8 oa, .bool false, .bool false, .slice none 0 0, .bool false, .bool false, .slice none 0 0] := hF.rel 3 _ rfl
    have ev4 : x 4 = .bool true := hF.rel 4 _ rfl
    have ev5 : x 5 = .bool true := hF.rel 5 _ rfl
    have ev6 : x 6 = .pointer (some ⟨w.heap.size, 0, none⟩) := hF.rel 6 _ rfl
    have ev7 : x 7 = .int .u8 oa := hF.rel 7 _ rfl
    have ev8 : x 8 = .slice A5 n5 c5 := hF.rel 8 _ rfl
    have ev9 : x 9 = .bool vi := hF.rel 9 _ rfl
    have ev10 : x 10 = .bool vi := hF.rel 10 _ rfl
    have ev11 : x 11 = .bool true := hF.rel 11 _ rfl
    have ev12 : x 12 = .bool true := hF.rel 12 _ rfl
    have ev13 : x 13 = .agg #[.int .u8 oa, .bool ia1, .bool pa1, .slice A1 n1 c1, .bool ia2, .bool pa2, .slice A2 n2 c2] := hF.rel 13 _ rfl
    have ev14 : x 14 = .agg #[.int .u8 oa, .bool false, .bool false, .slice none 0 0, .bool false, .bool false, .slice none 0 0] := hF.rel 14 _ rfl
    have ev15 : x 15 = .bool mr := hF.rel 15 _ rfl
    have ev16 : x 16 = .agg #[.int .u8 oa, .bool ia1, .bool pa1, .slice A1 n1 c1, .bool ia2, .bool pa2, .slice A2 n2 c2] := hF.rel 16 _ rfl
    have ev17 : x 17 = .bool mr := hF.rel 17 _ rfl
    have ev18 : x 18 = .bool true := hF.rel 18 _ rfl
    have ev19 : x 19 = .bool true := hF.rel 19 _ rfl
    have ev20 : x 20 = .bool true := hF.rel 20 _ rfl
    have ev21 : x 21 = .bool true := hF.rel 21 _ rfl
    have ev22 : x 22 = .bool true := hF.rel 22 _ rfl
    have ev23 : x 23 = .bool true := hF.rel 23 _ rfl
    have hbf := hF.frame
    clear hF
    simp only [Sch.finL, List.setIfInBounds_toArray, List.set_cons_zero, List.set_cons_succ, ev0, ev1, ev2, ev3, ev4, ev5, ev6, ev7, ev8, ev9, ev10, ev11, ev12, ev13, ev14, ev15, ev16, ev17, ev18, ev19, ev20, ev21, ev22, ev23]
    clear ev0 ev1 ev2 ev3 ev4 ev5 ev6 ev7 ev8 ev9 ev10 ev11 ev12 ev13 ev14 ev15 ev16 ev17 ev18 ev19 ev20 ev21 ev22 ev23
    refine tail_nil ?_
    go_wp2_with fail
    go_ret
    exact ⟨rfl, next_below HB0.out (next_below hB hbf)⟩
end Go.Proofs.YtjdmhbfddklhnaaDoor
