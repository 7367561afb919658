/-
  The program's package order: ends and ranges. Conditions: ends of at most 2^40 bytes.
-/
import Derived.Test.YtjdmhbfddklhnaaDoorOrdP3
import Derived.Test.YtjdmhbfddklhnaaDoorOrdP2
import Derived.Test.YtjdmhbfddklhnaaDoorOrdOk
import Derived.Test.YtjdmhbfddklhnaaDoorAuto
import Derived.Test.YtjdmhbfddklhnaaDoorOrdRef7
set_option linter.unusedSimpArgs false
set_option linter.unusedVariables false
set_option maxRecDepth 100000
namespace Go.Proofs.YtjdmhbfddklhnaaDoor
open Go Go.Proofs Go.RowKit _root_.Ord11 Go.Proofs.YtjdmhbfddklhnaaDoor.Ord11
open Sch (wp_R gr_val gr_is gr_fresh gr_nil gr_on gr_onV gr_offV op_callR Rk)

set_option maxHeartbeats 8000000 in
theorem pCopied (x : Bd) {A1 : Option Addr} {n1 c1 : Nat} (w : World) (h1 : SlAt w w.heap.size A1 n1 c1 x.at_) :
    Calls Tryd.prog 33 #[.agg (bdC x A1 n1 c1)] w fun e w' => ∃ v, e = .returned v ∧ BdV w.heap.size x.is x.op n1 x.at_ v w' ∧ Below w.heap.size w w' := by
  obtain ⟨i1, p1, l1⟩ := x
  dsimp only at h1 ⊢
  obtain ⟨w0, hw0⟩ : ∃ w0, w0 = ((w.alloc (.cells #[.bool i1, .bool p1, .slice A1 n1 c1] 29)).alloc (.cells #[.bool false, .bool false, .slice none 0 0] 29)) := ⟨_, rfl⟩
  have HB0 : Hid (Below w.heap.size w w0) := by
    show Below _ _ _
    rw [hw0]
    exact ((Below.refl w.heap.size w).alloc (Nat.le_refl _) _).alloc (by simp; try omega) _
  have B0 : Blk w0 w.heap.size 29 #[.bool i1, .bool p1, .slice A1 n1 c1] := by
    rw [hw0]
    exact (Blk.new w 29 #[.bool i1, .bool p1, .slice A1 n1 c1]).alloc (.cells #[.bool false, .bool false, .slice none 0 0] 29)
  have X0 : Hid (∀ W, Below w0.heap.size w0 W → ∀ k u, (#[.bool i1, .bool p1, .slice A1 n1 c1] : Array Value)[k]? = some u → W.cell? ⟨w.heap.size, k, none⟩ = some u) := fun W hW k u hk => cell_below hW ((B0.cell k).trans hk) B0.lt
  have B1 : Blk w0 (w.heap.size + 1) 29 #[.bool false, .bool false, .slice none 0 0] := by
    rw [hw0]
    have h := Blk.new (w.alloc (.cells #[.bool i1, .bool p1, .slice A1 n1 c1] 29)) 29 #[.bool false, .bool false, .slice none 0 0]
    simpa using h
  have X1 : Hid (∀ W, Below w0.heap.size w0 W → ∀ k u, (#[.bool false, .bool false, .slice none 0 0] : Array Value)[k]? = some u → W.cell? ⟨(w.heap.size + 1), k, none⟩ = some u) := fun W hW k u hk => cell_below hW ((B1.cell k).trans hk) B1.lt
  have HR : Below w0.heap.size w0 w0 := Below.refl _ _
  clear B0 B1
  have KZ : Hid (∀ W, Below w0.heap.size w0 W → Blk W (w.heap.size + 1) 29 #[.bool false, .bool false, .slice none 0 0]) := by
    intro W hW
    refine Blk.old (w := w0) ?_ hW
    rw [hw0]
    have h := Blk.new (w.alloc (.cells #[.bool i1, .bool p1, .slice A1 n1 c1] 29)) 29 #[.bool false, .bool false, .slice none 0 0]
    simpa using h
  have K1 : Hid (∀ W, Below w0.heap.size w0 W → Calls Tryd.prog 49 #[.slice A1 n1 c1] W fun e w' => ∃ v, e = .returned v ∧ SlV w0.heap.size n1 l1 v w' ∧ Below W.heap.size W w') := by
    intro W hW
    refine (clone11 (h1.next (next_below HB0.out hW))).mono ?_
    rintro e w' ⟨v, rfl, ⟨A, c, rfl, hs, hL⟩, hb⟩
    exact ⟨_, rfl, ⟨A, c, rfl, hs, fun ad h => Nat.le_trans hW.size (hL ad h)⟩, hb⟩
  have HG : Hid (w.heap.size + 1 < w0.heap.size) := by show _ < _; rw [hw0]; simp
  have hgt : w.heap.size ≤ w.heap.size + 1 := by omega
  clear h1
  unfold bdC
  go_enter Tryd.func33, Tryd.ntmps33
  go_upto_region 1 with fail
  rw [← hw0]
  clear hw0
  have x0_0 := X0.out _ HR 0 _ rfl
  have x0_1 := X0.out _ HR 1 _ rfl
  have x0_2 := X0.out _ HR 2 _ rfl
  try simp only [Act.put]
  refine wp_R [3, 4, 5, 6, 7, 8, 9, 10] [Rk.val (.pointer (some ⟨w.heap.size, 0, none⟩)), Rk.val (.bool i1), Rk.val (.pointer (some ⟨w.heap.size, 1, none⟩)), Rk.val (.bool p1), Rk.val (.pointer (some ⟨w.heap.size, 2, none⟩)), Rk.val (.slice A1 n1 c1), Rk.is (SlV w0.heap.size n1 l1) (SlV.keep), Rk.is (BdV w0.heap.size i1 p1 n1 l1) (BdV.keep)] rfl (by kernel_rfl) (by kernel_rfl) (by kernel_rfl) (by kernel_rfl) ?hg _ (by rfl) ?hf
  case hg =>
    refine gr_val rfl (by kernel_rfl) (fun a V H K Q hK => op_quiet (quiet_fld _ (.tmp 1) 0 _ _ (H.old 1 (by kernel_rfl) (by kernel_rfl)) (fB0 _ 0) (by kernel_rfl)) hK) ?_
    refine gr_val rfl (by kernel_rfl) (fun a V H K Q hK => op_quiet (quiet_cell _ (.tmp 3) _ (H.rel 0 3 (by kernel_rfl) (by kernel_rfl) rfl) Tryd.underlying4 rfl (X0.out _ H.frame 0 _ rfl) (by kernel_rfl)) hK) ?_
    refine gr_val rfl (by kernel_rfl) (fun a V H K Q hK => op_quiet (quiet_fld _ (.tmp 1) 1 _ _ (H.old 1 (by kernel_rfl) (by kernel_rfl)) (fB1 _ 0) (by kernel_rfl)) hK) ?_
    refine gr_val rfl (by kernel_rfl) (fun a V H K Q hK => op_quiet (quiet_cell _ (.tmp 5) _ (H.rel 2 5 (by kernel_rfl) (by kernel_rfl) rfl) Tryd.underlying4 rfl (X0.out _ H.frame 1 _ rfl) (by kernel_rfl)) hK) ?_
    refine gr_val rfl (by kernel_rfl) (fun a V H K Q hK => op_quiet (quiet_fld _ (.tmp 1) 2 _ _ (H.old 1 (by kernel_rfl) (by kernel_rfl)) (fB2 _ 0) (by kernel_rfl)) hK) ?_
    refine gr_val rfl (by kernel_rfl) (fun a V H K Q hK => op_quiet (quiet_cell _ (.tmp 7) _ (H.rel 4 7 (by kernel_rfl) (by kernel_rfl) rfl) Tryd.underlying22 rfl (X0.out _ H.frame 2 _ rfl) (by kernel_rfl)) hK) ?_
    refine gr_is rfl (by kernel_rfl) (fun a V H K Q hK => op_callR #[.tmp 8] #[.slice A1 n1 c1] (by kernel_rfl) (by kernel_rfl) (by kernel_rfl) (map1 (H.rel 5 8 (by kernel_rfl) (by kernel_rfl) rfl)) (K1.out V H.frame) (by kernel_rfl) hK) ?_
    refine gr_is rfl (by kernel_rfl) (fun a V H K Q hK => by
      obtain ⟨A9, c9, e9, h9, hL9⟩ : SlV w0.heap.size n1 l1 (a.eval (.tmp 9)) V := (H.rel 6 9 (by kernel_rfl) (by kernel_rfl) rfl)
      exact op_quiet (quiet_bld 29 _ _ (bld3 (a := 0) (b := 1) (c := 2) (H.rel 1 4 (by kernel_rfl) (by kernel_rfl) rfl) (H.rel 3 6 (by kernel_rfl) (by kernel_rfl) rfl) e9) #[.bool i1, .bool p1, .slice A9 n1 c9] (by kernel_rfl) (by kernel_rfl)) fun V' hb => hK _ V' hb ⟨A9, c9, rfl, h9.next hb, hL9⟩) ?_
    exact gr_nil
  case hf =>
    intro x V hF
    have ev0 : x 0 = .pointer (some ⟨w.heap.size, 0, none⟩) := hF.rel 0 _ rfl
    have ev1 : x 1 = .bool i1 := hF.rel 1 _ rfl
    have ev2 : x 2 = .pointer (some ⟨w.heap.size, 1, none⟩) := hF.rel 2 _ rfl
    have ev3 : x 3 = .bool p1 := hF.rel 3 _ rfl
    have ev4 : x 4 = .pointer (some ⟨w.heap.size, 2, none⟩) := hF.rel 4 _ rfl
    have ev5 : x 5 = .slice A1 n1 c1 := hF.rel 5 _ rfl
    have rv6 := hF.rel 6 _ rfl
    generalize hy6 : x 6 = y6 at rv6 ⊢
    have rv7 := hF.rel 7 _ rfl
    generalize hy7 : x 7 = y7 at rv7 ⊢
    have hbf := hF.frame
    clear hF
    simp only [Sch.finL, List.setIfInBounds_toArray, List.set_cons_zero, List.set_cons_succ, ev0, ev1, ev2, ev3, ev4, ev5, hy6, hy7]
    clear ev0 ev1 ev2 ev3 ev4 ev5 hy6 hy7
    obtain ⟨A9, c9, e9, h9, hL9⟩ : BdV w0.heap.size i1 p1 n1 l1 y7 V := rv7
    subst e9
    refine wpList_store_row rfl 29 (.tmp 2) (.tmp 10) rfl (w.heap.size + 1) _ rfl rfl 29 #[.bool false, .bool false, .slice none 0 0] (KZ.out _ hbf) infoBd2 rfl (by simp [Value.oneCell']) ?_
    refine tail_nil ?_
    go_wp2_with fail
    exact bodyPost_ret (results_cell_row Tryd.results33 _ _ (w.heap.size + 1) 29 _ (0, 0) _ rfl ((KZ.out _ hbf).row _) Tryd.underlying29 rfl infoBd2) rfl ⟨_, rfl, ⟨A9, c9, rfl, h9.row11 (fun ad h => by have := hL9 ad h; have := HG.out; omega) _, fun ad h => Nat.le_trans HB0.out.size (hL9 ad h)⟩, below_row (next_below HB0.out hbf) hgt _⟩
set_option maxHeartbeats 8000000 in
theorem pEmpty11 (r : Rg) (ho : r.o < 256) {A1 A2 : Option Addr} {n1 c1 n2 c2 : Nat} (w : World) (h1 : SlAt w w.heap.size A1 n1 c1 r.lo.at_) (h2 : SlAt w w.heap.size A2 n2 c2 r.hi.at_) :
    Calls Tryd.prog 18 #[.agg (rgC r A1 n1 c1 A2 n2 c2)] w fun e w' => e = .returned (.bool (emptyR ordC r)) ∧ Below w.heap.size w w' := by
  obtain ⟨o, ⟨i1, p1, l1⟩, ⟨i2, p2, l2⟩⟩ := r
  dsimp only at h1 h2 ho
  obtain ⟨X, hX⟩ : ∃ X, X = emptyR ordC ⟨o, ⟨i1, p1, l1⟩, ⟨i2, p2, l2⟩⟩ := ⟨_, rfl⟩
  rw [← hX]
  obtain ⟨m, hm⟩ : ∃ m, m = mayR ordC ⟨o, ⟨i1, p1, l1⟩, ⟨i2, p2, l2⟩⟩ := ⟨_, rfl⟩
  obtain ⟨z, hz⟩ : ∃ z, z = (ordC o l1 l2).1 := ⟨_, rfl⟩
  have HX : Hid (X = (m && i1 && i2 && (decide (0 < z) || (decide (z = 0) && (p1 || p2))))) := by show _ = _; rw [hX, hm, hz]; rfl
  clear hX
  obtain ⟨w0, hw0⟩ : ∃ w0, w0 = (w.alloc (.cells #[.int .u8 o, .bool i1, .bool p1, .slice A1 n1 c1, .bool i2, .bool p2, .slice A2 n2 c2] 31)) := ⟨_, rfl⟩
  have HB0 : Hid (Below w.heap.size w w0) := by
    show Below _ _ _
    rw [hw0]
    exact (Below.refl w.heap.size w).alloc (Nat.le_refl _) _
  have B0 : Blk w0 w.heap.size 31 #[.int .u8 o, .bool i1, .bool p1, .slice A1 n1 c1, .bool i2, .bool p2, .slice A2 n2 c2] := by
    rw [hw0]
    exact Blk.new w 31 #[.int .u8 o, .bool i1, .bool p1, .slice A1 n1 c1, .bool i2, .bool p2, .slice A2 n2 c2]
  have X0 : Hid (∀ W, Below w0.heap.size w0 W → ∀ k u, (#[.int .u8 o, .bool i1, .bool p1, .slice A1 n1 c1, .bool i2, .bool p2, .slice A2 n2 c2] : Array Value)[k]? = some u → W.cell? ⟨w.heap.size, k, none⟩ = some u) := fun W hW k u hk => cell_below hW ((B0.cell k).trans hk) B0.lt
  have HR : Below w0.heap.size w0 w0 := Below.refl _ _
  clear B0
  have K1 : Hid (∀ W, Below w0.heap.size w0 W → Calls Tryd.prog 14 #[.agg #[.int .u8 o, .bool i1, .bool p1, .slice A1 n1 c1, .bool i2, .bool p2, .slice A2 n2 c2]] W fun e w' => e = .returned (.bool m) ∧ Below W.heap.size W w') := by
    intro W hW
    have hW' := next_below HB0.out hW
    rw [hm]; exact pMay11 ⟨o, ⟨i1, p1, l1⟩, ⟨i2, p2, l2⟩⟩ ho W (h1.next hW') (h2.next hW')
  have K2 : Hid (∀ W, Below w0.heap.size w0 W → Calls Tryd.prog 9 #[.int .u8 o, .slice A1 n1 c1, .slice A2 n2 c2] W fun e w' => e = .returned (.tuple #[.int .i64 z, .bool (ordC o l1 l2).2]) ∧ Below W.heap.size W w') := by
    intro W hW
    have hW' := next_below HB0.out hW
    rw [hz]; exact pCompare11 o ho (h1.next hW') (h2.next hW')
  generalize (ordC o l1 l2).2 = y at K2
  clear hm hz h1 h2
  unfold rgC
  go_enter Tryd.func18, Tryd.ntmps18
  go_upto_region 1 with fail
  rw [← hw0]
  clear hw0
  have x0_0 := X0.out _ HR 0 _ rfl
  have x0_1 := X0.out _ HR 1 _ rfl
  have x0_2 := X0.out _ HR 2 _ rfl
  have x0_3 := X0.out _ HR 3 _ rfl
  have x0_4 := X0.out _ HR 4 _ rfl
  have x0_5 := X0.out _ HR 5 _ rfl
  have x0_6 := X0.out _ HR 6 _ rfl
  have hz3 : z < 0 ∨ z = 0 ∨ 0 < z := by omega
  have hfin : ∀ b W, X = b → Below w0.heap.size w0 W → Ending.returned (.bool b) = .returned (.bool X) ∧ Below w.heap.size w W := fun b W h1 h2 => ⟨by rw [h1], next_below HB0.out h2⟩
  cases m
  · go_wp2_with (go_at_call 14; (with_reducible refine (K1.out _ (by assumption)).mono ?_); rintro e w1 ⟨rfl, hb⟩; have hB := next_below (by assumption) hb; have x0_0 := X0.out _ hB 0 _ rfl; have x0_1 := X0.out _ hB 1 _ rfl; have x0_2 := X0.out _ hB 2 _ rfl; have x0_3 := X0.out _ hB 3 _ rfl; have x0_4 := X0.out _ hB 4 _ rfl; have x0_5 := X0.out _ hB 5 _ rfl; have x0_6 := X0.out _ hB 6 _ rfl; clear hb)
    all_goals go_ret
    all_goals exact hfin _ _ (by rw [HX.out]; simp) (by assumption)
  · rcases hz3 with h | h | h
    · have hB1 : decide (0 < z) = false := decide_eq_false (by omega)
      have hB2 : (z == 0) = false := by rw [beq_eq_false_iff_ne]; omega
      have HZ := Lib.hid h
      clear h
      cases i1 <;> cases i2
      all_goals go_wp2_with first | (go_at_call 14; (with_reducible refine (K1.out _ (by assumption)).mono ?_); rintro e w1 ⟨rfl, hb⟩; have hB := next_below (by assumption) hb; have x0_0 := X0.out _ hB 0 _ rfl; have x0_1 := X0.out _ hB 1 _ rfl; have x0_2 := X0.out _ hB 2 _ rfl; have x0_3 := X0.out _ hB 3 _ rfl; have x0_4 := X0.out _ hB 4 _ rfl; have x0_5 := X0.out _ hB 5 _ rfl; have x0_6 := X0.out _ hB 6 _ rfl; clear hb) | (go_at_call 9; (with_reducible refine (K2.out _ (by assumption)).mono ?_); rintro e w1 ⟨rfl, hb⟩; have hB := next_below (by assumption) hb; have x0_0 := X0.out _ hB 0 _ rfl; have x0_1 := X0.out _ hB 1 _ rfl; have x0_2 := X0.out _ hB 2 _ rfl; have x0_3 := X0.out _ hB 3 _ rfl; have x0_4 := X0.out _ hB 4 _ rfl; have x0_5 := X0.out _ hB 5 _ rfl; have x0_6 := X0.out _ hB 6 _ rfl; clear hb)
      all_goals go_ret
      all_goals exact hfin _ _ (by rw [HX.out]; have := HZ.out; simp <;> omega) (by assumption)
    · subst h
      cases i1 <;> cases i2 <;> cases p1 <;> cases p2
      all_goals go_wp2_with first | (go_at_call 14; (with_reducible refine (K1.out _ (by assumption)).mono ?_); rintro e w1 ⟨rfl, hb⟩; have hB := next_below (by assumption) hb; have x0_0 := X0.out _ hB 0 _ rfl; have x0_1 := X0.out _ hB 1 _ rfl; have x0_2 := X0.out _ hB 2 _ rfl; have x0_3 := X0.out _ hB 3 _ rfl; have x0_4 := X0.out _ hB 4 _ rfl; have x0_5 := X0.out _ hB 5 _ rfl; have x0_6 := X0.out _ hB 6 _ rfl; clear hb) | (go_at_call 9; (with_reducible refine (K2.out _ (by assumption)).mono ?_); rintro e w1 ⟨rfl, hb⟩; have hB := next_below (by assumption) hb; have x0_0 := X0.out _ hB 0 _ rfl; have x0_1 := X0.out _ hB 1 _ rfl; have x0_2 := X0.out _ hB 2 _ rfl; have x0_3 := X0.out _ hB 3 _ rfl; have x0_4 := X0.out _ hB 4 _ rfl; have x0_5 := X0.out _ hB 5 _ rfl; have x0_6 := X0.out _ hB 6 _ rfl; clear hb)
      all_goals go_ret
      all_goals exact hfin _ _ (by rw [HX.out]; simp) (by assumption)
    · have hB1 : decide (0 < z) = true := decide_eq_true h
      have HZ := Lib.hid h
      clear h
      cases i1 <;> cases i2
      all_goals go_wp2_with first | (go_at_call 14; (with_reducible refine (K1.out _ (by assumption)).mono ?_); rintro e w1 ⟨rfl, hb⟩; have hB := next_below (by assumption) hb; have x0_0 := X0.out _ hB 0 _ rfl; have x0_1 := X0.out _ hB 1 _ rfl; have x0_2 := X0.out _ hB 2 _ rfl; have x0_3 := X0.out _ hB 3 _ rfl; have x0_4 := X0.out _ hB 4 _ rfl; have x0_5 := X0.out _ hB 5 _ rfl; have x0_6 := X0.out _ hB 6 _ rfl; clear hb) | (go_at_call 9; (with_reducible refine (K2.out _ (by assumption)).mono ?_); rintro e w1 ⟨rfl, hb⟩; have hB := next_below (by assumption) hb; have x0_0 := X0.out _ hB 0 _ rfl; have x0_1 := X0.out _ hB 1 _ rfl; have x0_2 := X0.out _ hB 2 _ rfl; have x0_3 := X0.out _ hB 3 _ rfl; have x0_4 := X0.out _ hB 4 _ rfl; have x0_5 := X0.out _ hB 5 _ rfl; have x0_6 := X0.out _ hB 6 _ rfl; clear hb)
      all_goals go_ret
      all_goals exact hfin _ _ (by rw [HX.out]; have := HZ.out; simp <;> omega) (by assumption)
set_option maxHeartbeats 8000000 in
theorem pWithin (r s : Rg) (hor : r.o < 256) (hos : s.o < 256) {A1 A2 A3 A4 : Option Addr} {n1 c1 n2 c2 n3 c3 n4 c4 : Nat} (w : World) (h1 : SlAt w w.heap.size A1 n1 c1 r.lo.at_) (h2 : SlAt w w.heap.size A2 n2 c2 r.hi.at_) (h3 : SlAt w w.heap.size A3 n3 c3 s.lo.at_) (h4 : SlAt w w.heap.size A4 n4 c4 s.hi.at_) :
    Calls Tryd.prog 23 #[.agg (rgC r A1 n1 c1 A2 n2 c2), .agg (rgC s A3 n3 c3 A4 n4 c4)] w fun e w' => e = .returned (.bool (withinR ordC r s)) ∧ Below w.heap.size w w' := by
  rw [within_ends ordC_lawful]
  obtain ⟨oa, ⟨ia1, pa1, l1⟩, ⟨ia2, pa2, l2⟩⟩ := r
  obtain ⟨ob, ⟨ib1, pb1, l3⟩, ⟨ib2, pb2, l4⟩⟩ := s
  dsimp only at h1 h2 h3 h4 hor hos ⊢
  obtain ⟨t, ht⟩ : ∃ m, m = bothR ordC ⟨oa, ⟨ia1, pa1, l1⟩, ⟨ia2, pa2, l2⟩⟩ ⟨ob, ⟨ib1, pb1, l3⟩, ⟨ib2, pb2, l4⟩⟩ := ⟨_, rfl⟩
  obtain ⟨em, hem⟩ : ∃ m, m = emptyR ordC ⟨oa, ⟨ia1, pa1, l1⟩, ⟨ia2, pa2, l2⟩⟩ := ⟨_, rfl⟩
  obtain ⟨b1, hb1⟩ : ∃ m, m = insideB ordC oa 1 ⟨ia1, pa1, l1⟩ ⟨ib1, pb1, l3⟩ := ⟨_, rfl⟩
  obtain ⟨b2, hb2⟩ : ∃ m, m = insideB ordC oa (-1) ⟨ia2, pa2, l2⟩ ⟨ib2, pb2, l4⟩ := ⟨_, rfl⟩
  rw [← ht, ← hem, ← hb1, ← hb2]
  obtain ⟨X, hX⟩ : ∃ X, X = (t && (em || (b1 && b2))) := ⟨_, rfl⟩
  rw [← hX]
  have HX := Lib.hid hX
  clear hX
  obtain ⟨w0, hw0⟩ : ∃ w0, w0 = ((w.alloc (.cells #[.int .u8 oa, .bool ia1, .bool pa1, .slice A1 n1 c1, .bool ia2, .bool pa2, .slice A2 n2 c2] 31)).alloc (.cells #[.int .u8 ob, .bool ib1, .bool pb1, .slice A3 n3 c3, .bool ib2, .bool pb2, .slice A4 n4 c4] 31)) := ⟨_, rfl⟩
  have HB0 : Hid (Below w.heap.size w w0) := by
    show Below _ _ _
    rw [hw0]
    exact ((Below.refl w.heap.size w).alloc (Nat.le_refl _) _).alloc (by simp; try omega) _
  have B0 : Blk w0 w.heap.size 31 #[.int .u8 oa, .bool ia1, .bool pa1, .slice A1 n1 c1, .bool ia2, .bool pa2, .slice A2 n2 c2] := by
    rw [hw0]
    exact (Blk.new w 31 #[.int .u8 oa, .bool ia1, .bool pa1, .slice A1 n1 c1, .bool ia2, .bool pa2, .slice A2 n2 c2]).alloc (.cells #[.int .u8 ob, .bool ib1, .bool pb1, .slice A3 n3 c3, .bool ib2, .bool pb2, .slice A4 n4 c4] 31)
  have X0 : Hid (∀ W, Below w0.heap.size w0 W → ∀ k u, (#[.int .u8 oa, .bool ia1, .bool pa1, .slice A1 n1 c1, .bool ia2, .bool pa2, .slice A2 n2 c2] : Array Value)[k]? = some u → W.cell? ⟨w.heap.size, k, none⟩ = some u) := fun W hW k u hk => cell_below hW ((B0.cell k).trans hk) B0.lt
  have B1 : Blk w0 (w.heap.size + 1) 31 #[.int .u8 ob, .bool ib1, .bool pb1, .slice A3 n3 c3, .bool ib2, .bool pb2, .slice A4 n4 c4] := by
    rw [hw0]
    have h := Blk.new (w.alloc (.cells #[.int .u8 oa, .bool ia1, .bool pa1, .slice A1 n1 c1, .bool ia2, .bool pa2, .slice A2 n2 c2] 31)) 31 #[.int .u8 ob, .bool ib1, .bool pb1, .slice A3 n3 c3, .bool ib2, .bool pb2, .slice A4 n4 c4]
    simpa using h
  have X1 : Hid (∀ W, Below w0.heap.size w0 W → ∀ k u, (#[.int .u8 ob, .bool ib1, .bool pb1, .slice A3 n3 c3, .bool ib2, .bool pb2, .slice A4 n4 c4] : Array Value)[k]? = some u → W.cell? ⟨(w.heap.size + 1), k, none⟩ = some u) := fun W hW k u hk => cell_below hW ((B1.cell k).trans hk) B1.lt
  have HR : Below w0.heap.size w0 w0 := Below.refl _ _
  clear B0 B1
  have K1 : Hid (∀ W, Below w0.heap.size w0 W → Calls Tryd.prog 32 #[.agg #[.int .u8 oa, .bool ia1, .bool pa1, .slice A1 n1 c1, .bool ia2, .bool pa2, .slice A2 n2 c2], .agg #[.int .u8 ob, .bool ib1, .bool pb1, .slice A3 n3 c3, .bool ib2, .bool pb2, .slice A4 n4 c4]] W fun e w' => e = .returned (.bool t) ∧ Below W.heap.size W w') := by
    intro W hW
    have hW' := next_below HB0.out hW
    rw [ht]; exact pMayBoth ⟨oa, ⟨ia1, pa1, l1⟩, ⟨ia2, pa2, l2⟩⟩ ⟨ob, ⟨ib1, pb1, l3⟩, ⟨ib2, pb2, l4⟩⟩ hor hos W (h1.next hW') (h2.next hW') (h3.next hW') (h4.next hW')
  have K2 : Hid (∀ W, Below w0.heap.size w0 W → Calls Tryd.prog 18 #[.agg #[.int .u8 oa, .bool ia1, .bool pa1, .slice A1 n1 c1, .bool ia2, .bool pa2, .slice A2 n2 c2]] W fun e w' => e = .returned (.bool em) ∧ Below W.heap.size W w') := by
    intro W hW
    have hW' := next_below HB0.out hW
    rw [hem]; exact pEmpty11 ⟨oa, ⟨ia1, pa1, l1⟩, ⟨ia2, pa2, l2⟩⟩ hor W (h1.next hW') (h2.next hW')
  have K3 : Hid (∀ W, Below w0.heap.size w0 W → Calls Tryd.prog 37 #[.int .u8 oa, .int .i64 1, .agg #[.bool ia1, .bool pa1, .slice A1 n1 c1], .agg #[.bool ib1, .bool pb1, .slice A3 n3 c3]] W fun e w' => e = .returned (.bool b1) ∧ Below W.heap.size W w') := by
    intro W hW
    have hW' := next_below HB0.out hW
    rw [hb1]; exact pInside oa hor 1 ⟨ia1, pa1, l1⟩ ⟨ib1, pb1, l3⟩ W (h1.next hW') (h3.next hW')
  have K4 : Hid (∀ W, Below w0.heap.size w0 W → Calls Tryd.prog 37 #[.int .u8 oa, .int .i64 (-1), .agg #[.bool ia2, .bool pa2, .slice A2 n2 c2], .agg #[.bool ib2, .bool pb2, .slice A4 n4 c4]] W fun e w' => e = .returned (.bool b2) ∧ Below W.heap.size W w') := by
    intro W hW
    have hW' := next_below HB0.out hW
    rw [hb2]; exact pInside oa hor (-1) ⟨ia2, pa2, l2⟩ ⟨ib2, pb2, l4⟩ W (h2.next hW') (h4.next hW')
  clear ht hem hb1 hb2 h1 h2 h3 h4
  unfold rgC
  go_enter Tryd.func23, Tryd.ntmps23
  go_upto_region 1 with fail
  rw [← hw0]
  clear hw0
  have x0_0 := X0.out _ HR 0 _ rfl
  have x0_1 := X0.out _ HR 1 _ rfl
  have x0_2 := X0.out _ HR 2 _ rfl
  have x0_3 := X0.out _ HR 3 _ rfl
  have x0_4 := X0.out _ HR 4 _ rfl
  have x0_5 := X0.out _ HR 5 _ rfl
  have x0_6 := X0.out _ HR 6 _ rfl
  have x1_0 := X1.out _ HR 0 _ rfl
  have x1_1 := X1.out _ HR 1 _ rfl
  have x1_2 := X1.out _ HR 2 _ rfl
  have x1_3 := X1.out _ HR 3 _ rfl
  have x1_4 := X1.out _ HR 4 _ rfl
  have x1_5 := X1.out _ HR 5 _ rfl
  have x1_6 := X1.out _ HR 6 _ rfl
  cases t with
  | false =>
    go_wp2_with (go_at_call 32; (with_reducible refine (K1.out _ (by assumption)).mono ?_); rintro e w1 ⟨rfl, hb⟩; have hB := next_below (by assumption) hb; have x0_0 := X0.out _ hB 0 _ rfl; have x0_1 := X0.out _ hB 1 _ rfl; have x0_2 := X0.out _ hB 2 _ rfl; have x0_3 := X0.out _ hB 3 _ rfl; have x0_4 := X0.out _ hB 4 _ rfl; have x0_5 := X0.out _ hB 5 _ rfl; have x0_6 := X0.out _ hB 6 _ rfl; have x1_0 := X1.out _ hB 0 _ rfl; have x1_1 := X1.out _ hB 1 _ rfl; have x1_2 := X1.out _ hB 2 _ rfl; have x1_3 := X1.out _ hB 3 _ rfl; have x1_4 := X1.out _ hB 4 _ rfl; have x1_5 := X1.out _ hB 5 _ rfl; have x1_6 := X1.out _ hB 6 _ rfl; clear hb)
    go_ret
    exact ⟨by rw [HX.out]; simp, next_below HB0.out (by assumption)⟩
  | true =>
    cases em with
    | true =>
      go_wp2_with first | (go_at_call 32; (with_reducible refine (K1.out _ (by assumption)).mono ?_); rintro e w1 ⟨rfl, hb⟩; have hB := next_below (by assumption) hb; have x0_0 := X0.out _ hB 0 _ rfl; have x0_1 := X0.out _ hB 1 _ rfl; have x0_2 := X0.out _ hB 2 _ rfl; have x0_3 := X0.out _ hB 3 _ rfl; have x0_4 := X0.out _ hB 4 _ rfl; have x0_5 := X0.out _ hB 5 _ rfl; have x0_6 := X0.out _ hB 6 _ rfl; have x1_0 := X1.out _ hB 0 _ rfl; have x1_1 := X1.out _ hB 1 _ rfl; have x1_2 := X1.out _ hB 2 _ rfl; have x1_3 := X1.out _ hB 3 _ rfl; have x1_4 := X1.out _ hB 4 _ rfl; have x1_5 := X1.out _ hB 5 _ rfl; have x1_6 := X1.out _ hB 6 _ rfl; clear hb) | (go_at_call 18; (with_reducible refine (K2.out _ (by assumption)).mono ?_); rintro e w1 ⟨rfl, hb⟩; have hB := next_below (by assumption) hb; have x0_0 := X0.out _ hB 0 _ rfl; have x0_1 := X0.out _ hB 1 _ rfl; have x0_2 := X0.out _ hB 2 _ rfl; have x0_3 := X0.out _ hB 3 _ rfl; have x0_4 := X0.out _ hB 4 _ rfl; have x0_5 := X0.out _ hB 5 _ rfl; have x0_6 := X0.out _ hB 6 _ rfl; have x1_0 := X1.out _ hB 0 _ rfl; have x1_1 := X1.out _ hB 1 _ rfl; have x1_2 := X1.out _ hB 2 _ rfl; have x1_3 := X1.out _ hB 3 _ rfl; have x1_4 := X1.out _ hB 4 _ rfl; have x1_5 := X1.out _ hB 5 _ rfl; have x1_6 := X1.out _ hB 6 _ rfl; clear hb)
      go_ret
      exact ⟨by rw [HX.out]; simp, next_below HB0.out (by assumption)⟩
    | false =>
      cases b1 <;> cases b2
      all_goals go_wp2_with first | (go_at_call 32; (with_reducible refine (K1.out _ (by assumption)).mono ?_); rintro e w1 ⟨rfl, hb⟩; have hB := next_below (by assumption) hb; have x0_0 := X0.out _ hB 0 _ rfl; have x0_1 := X0.out _ hB 1 _ rfl; have x0_2 := X0.out _ hB 2 _ rfl; have x0_3 := X0.out _ hB 3 _ rfl; have x0_4 := X0.out _ hB 4 _ rfl; have x0_5 := X0.out _ hB 5 _ rfl; have x0_6 := X0.out _ hB 6 _ rfl; have x1_0 := X1.out _ hB 0 _ rfl; have x1_1 := X1.out _ hB 1 _ rfl; have x1_2 := X1.out _ hB 2 _ rfl; have x1_3 := X1.out _ hB 3 _ rfl; have x1_4 := X1.out _ hB 4 _ rfl; have x1_5 := X1.out _ hB 5 _ rfl; have x1_6 := X1.out _ hB 6 _ rfl; clear hb) | (go_at_call 18; (with_reducible refine (K2.out _ (by assumption)).mono ?_); rintro e w1 ⟨rfl, hb⟩; have hB := next_below (by assumption) hb; have x0_0 := X0.out _ hB 0 _ rfl; have x0_1 := X0.out _ hB 1 _ rfl; have x0_2 := X0.out _ hB 2 _ rfl; have x0_3 := X0.out _ hB 3 _ rfl; have x0_4 := X0.out _ hB 4 _ rfl; have x0_5 := X0.out _ hB 5 _ rfl; have x0_6 := X0.out _ hB 6 _ rfl; have x1_0 := X1.out _ hB 0 _ rfl; have x1_1 := X1.out _ hB 1 _ rfl; have x1_2 := X1.out _ hB 2 _ rfl; have x1_3 := X1.out _ hB 3 _ rfl; have x1_4 := X1.out _ hB 4 _ rfl; have x1_5 := X1.out _ hB 5 _ rfl; have x1_6 := X1.out _ hB 6 _ rfl; clear hb) | (go_at_call 37; (first | (with_reducible refine (K3.out _ (by assumption)).mono ?_) | (with_reducible refine (K4.out _ (by assumption)).mono ?_)); rintro e w1 ⟨rfl, hb⟩; have hB := next_below (by assumption) hb; have x0_0 := X0.out _ hB 0 _ rfl; have x0_1 := X0.out _ hB 1 _ rfl; have x0_2 := X0.out _ hB 2 _ rfl; have x0_3 := X0.out _ hB 3 _ rfl; have x0_4 := X0.out _ hB 4 _ rfl; have x0_5 := X0.out _ hB 5 _ rfl; have x0_6 := X0.out _ hB 6 _ rfl; have x1_0 := X1.out _ hB 0 _ rfl; have x1_1 := X1.out _ hB 1 _ rfl; have x1_2 := X1.out _ hB 2 _ rfl; have x1_3 := X1.out _ hB 3 _ rfl; have x1_4 := X1.out _ hB 4 _ rfl; have x1_5 := X1.out _ hB 5 _ rfl; have x1_6 := X1.out _ hB 6 _ rfl; clear hb)
      all_goals go_ret
      all_goals exact ⟨by rw [HX.out]; simp, next_below HB0.out (by assumption)⟩
set_option maxHeartbeats 8000000 in
theorem pIn11 (r : Rg) (ho : r.o < 256) {A1 A2 A3 : Option Addr} {n1 c1 n2 c2 n3 c3 : Nat} {b : List UInt8} (w : World) (h1 : SlAt w w.heap.size A1 n1 c1 r.lo.at_) (h2 : SlAt w w.heap.size A2 n2 c2 r.hi.at_) (h3 : SlAt w w.heap.size A3 n3 c3 b) :
    Calls Tryd.prog 16 #[.agg (rgC r A1 n1 c1 A2 n2 c2), .slice A3 n3 c3] w fun e w' => e = .returned (.bool (inR ordC r b)) ∧ Below w.heap.size w w' := by
  rw [in_within ordC_lawful]
  obtain ⟨o, ⟨i1, p1, l1⟩, ⟨i2, p2, l2⟩⟩ := r
  dsimp only at h1 h2 ho ⊢
  obtain ⟨X, hX⟩ : ∃ X, X = withinR ordC ⟨o, ⟨true, false, b⟩, ⟨true, false, b⟩⟩ ⟨o, ⟨i1, p1, l1⟩, ⟨i2, p2, l2⟩⟩ := ⟨_, rfl⟩
  rw [← hX]
  obtain ⟨w0, hw0⟩ : ∃ w0, w0 = ((w.alloc (.cells #[.int .u8 o, .bool i1, .bool p1, .slice A1 n1 c1, .bool i2, .bool p2, .slice A2 n2 c2] 31)).alloc (.cells #[.bool true, .bool false, .slice A3 n3 c3] 29)) := ⟨_, rfl⟩
  have HB0 : Hid (Below w.heap.size w w0) := by
    show Below _ _ _
    rw [hw0]
    exact ((Below.refl w.heap.size w).alloc (Nat.le_refl _) _).alloc (by simp; try omega) _
  have B0 : Blk w0 w.heap.size 31 #[.int .u8 o, .bool i1, .bool p1, .slice A1 n1 c1, .bool i2, .bool p2, .slice A2 n2 c2] := by
    rw [hw0]
    exact (Blk.new w 31 #[.int .u8 o, .bool i1, .bool p1, .slice A1 n1 c1, .bool i2, .bool p2, .slice A2 n2 c2]).alloc (.cells #[.bool true, .bool false, .slice A3 n3 c3] 29)
  have X0 : Hid (∀ W, Below w0.heap.size w0 W → ∀ k u, (#[.int .u8 o, .bool i1, .bool p1, .slice A1 n1 c1, .bool i2, .bool p2, .slice A2 n2 c2] : Array Value)[k]? = some u → W.cell? ⟨w.heap.size, k, none⟩ = some u) := fun W hW k u hk => cell_below hW ((B0.cell k).trans hk) B0.lt
  have B1 : Blk w0 (w.heap.size + 1) 29 #[.bool true, .bool false, .slice A3 n3 c3] := by
    rw [hw0]
    have h := Blk.new (w.alloc (.cells #[.int .u8 o, .bool i1, .bool p1, .slice A1 n1 c1, .bool i2, .bool p2, .slice A2 n2 c2] 31)) 29 #[.bool true, .bool false, .slice A3 n3 c3]
    simpa using h
  have X1 : Hid (∀ W, Below w0.heap.size w0 W → ∀ k u, (#[.bool true, .bool false, .slice A3 n3 c3] : Array Value)[k]? = some u → W.cell? ⟨(w.heap.size + 1), k, none⟩ = some u) := fun W hW k u hk => cell_below hW ((B1.cell k).trans hk) B1.lt
  have HR : Below w0.heap.size w0 w0 := Below.refl _ _
  clear B0 B1
  have K1 : Hid (∀ W, Below w0.heap.size w0 W → Calls Tryd.prog 23 #[.agg #[.int .u8 o, .bool true, .bool false, .slice A3 n3 c3, .bool true, .bool false, .slice A3 n3 c3], .agg #[.int .u8 o, .bool i1, .bool p1, .slice A1 n1 c1, .bool i2, .bool p2, .slice A2 n2 c2]] W fun e w' => e = .returned (.bool X) ∧ Below W.heap.size W w') := by
    intro W hW
    have hW' := next_below HB0.out hW
    rw [hX]; exact pWithin ⟨o, ⟨true, false, b⟩, ⟨true, false, b⟩⟩ ⟨o, ⟨i1, p1, l1⟩, ⟨i2, p2, l2⟩⟩ ho ho W (h3.next hW') (h3.next hW') (h1.next hW') (h2.next hW')
  clear hX h1 h2 h3
  unfold rgC
  go_enter Tryd.func16, Tryd.ntmps16
  go_upto_region 2 with fail
  rw [← hw0]
  clear hw0
  have x0_0 := X0.out _ HR 0 _ rfl
  have x0_1 := X0.out _ HR 1 _ rfl
  have x0_2 := X0.out _ HR 2 _ rfl
  have x0_3 := X0.out _ HR 3 _ rfl
  have x0_4 := X0.out _ HR 4 _ rfl
  have x0_5 := X0.out _ HR 5 _ rfl
  have x0_6 := X0.out _ HR 6 _ rfl
  have x1_0 := X1.out _ HR 0 _ rfl
  have x1_1 := X1.out _ HR 1 _ rfl
  have x1_2 := X1.out _ HR 2 _ rfl
  go_wp2_with (go_at_call 23; (with_reducible refine (K1.out _ (by assumption)).mono ?_); rintro e w1 ⟨rfl, hb⟩; have hB := next_below (by assumption) hb; have x0_0 := X0.out _ hB 0 _ rfl; have x0_1 := X0.out _ hB 1 _ rfl; have x0_2 := X0.out _ hB 2 _ rfl; have x0_3 := X0.out _ hB 3 _ rfl; have x0_4 := X0.out _ hB 4 _ rfl; have x0_5 := X0.out _ hB 5 _ rfl; have x0_6 := X0.out _ hB 6 _ rfl; have x1_0 := X1.out _ hB 0 _ rfl; have x1_1 := X1.out _ hB 1 _ rfl; have x1_2 := X1.out _ hB 2 _ rfl; clear hb)
  go_ret
  exact ⟨rfl, next_below HB0.out (by assumption)⟩
end Go.Proofs.YtjdmhbfddklhnaaDoor
