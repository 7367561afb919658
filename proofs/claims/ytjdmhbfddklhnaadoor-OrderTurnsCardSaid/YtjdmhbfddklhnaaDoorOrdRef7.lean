/-
  The contracts of the document's answers of layer 11 on ranges (package greffierref11). Conditions: ends of at most 2^40 bytes.
-/
import Derived.Test.YtjdmhbfddklhnaaDoorOrdRef6
import Derived.Test.YtjdmhbfddklhnaaDoorAuto
import Derived.Laws.Rows
set_option linter.unusedSimpArgs false
set_option linter.unusedVariables false
set_option maxRecDepth 100000
namespace Go.Proofs.YtjdmhbfddklhnaaDoor
open Go Go.Proofs Go.RowKit _root_.Ord11 Go.Proofs.YtjdmhbfddklhnaaDoor.Ord11
open Sch (wp_R gr_val gr_is gr_fresh gr_nil gr_on gr_onV gr_offV op_callR Rk)

theorem fR0 (g o : Nat) : ∀ W, (Instr.fieldAt 31 (.pointer (some ⟨g, o, none⟩)) 0).run Tryd.prog W = .ok (.pointer (some ⟨g, o, none⟩)) W := fun W => by kernel_rfl
theorem fR1 (g o : Nat) : ∀ W, (Instr.fieldAt 31 (.pointer (some ⟨g, o, none⟩)) 1).run Tryd.prog W = .ok (.pointer (some ⟨g, o + 1, none⟩)) W := fun W => by kernel_rfl
theorem fR2 (g o : Nat) : ∀ W, (Instr.fieldAt 31 (.pointer (some ⟨g, o, none⟩)) 2).run Tryd.prog W = .ok (.pointer (some ⟨g, o + 4, none⟩)) W := fun W => by kernel_rfl
theorem fB0 (g o : Nat) : ∀ W, (Instr.fieldAt 29 (.pointer (some ⟨g, o, none⟩)) 0).run Tryd.prog W = .ok (.pointer (some ⟨g, o, none⟩)) W := fun W => by kernel_rfl
theorem fB1 (g o : Nat) : ∀ W, (Instr.fieldAt 29 (.pointer (some ⟨g, o, none⟩)) 1).run Tryd.prog W = .ok (.pointer (some ⟨g, o + 1, none⟩)) W := fun W => by kernel_rfl
theorem fB2 (g o : Nat) : ∀ W, (Instr.fieldAt 29 (.pointer (some ⟨g, o, none⟩)) 2).run Tryd.prog W = .ok (.pointer (some ⟨g, o + 2, none⟩)) W := fun W => by kernel_rfl
/-- What Meet answers: these cells, and whether. -/
def meetC (o : Nat) (ok : Bool) (a b : Array Value) : Value := .tuple #[.agg (if ok then #[.int .u8 o] ++ a ++ b else #[.int .u8 0, .bool false, .bool false, .slice none 0 0, .bool false, .bool false, .slice none 0 0]), .bool ok]
theorem infoRg : (Tryd.prog.info? 31).map (·.size) = some 7 := by kernel_rfl
set_option maxHeartbeats 8000000 in
theorem refMeet11 (r s : Rg) (hor : r.o < 256) (hos : s.o < 256) {A1 A2 A3 A4 : Option Addr} {n1 c1 n2 c2 n3 c3 n4 c4 : Nat} (w : World) (h1 : SlAt w w.heap.size A1 n1 c1 r.lo.at_) (h2 : SlAt w w.heap.size A2 n2 c2 r.hi.at_) (h3 : SlAt w w.heap.size A3 n3 c3 s.lo.at_) (h4 : SlAt w w.heap.size A4 n4 c4 s.hi.at_) :
    Calls Tryd.prog 21 #[.agg (rgC r A1 n1 c1 A2 n2 c2), .agg (rgC s A3 n3 c3 A4 n4 c4)] w fun e w' => e = .returned (meetC r.o (meetR ordC r s).2 (pickA (endP r.o r.lo s.lo true) (bdC r.lo A1 n1 c1) (bdC s.lo A3 n3 c3)) (pickA (endP r.o r.hi s.hi false) (bdC r.hi A2 n2 c2) (bdC s.hi A4 n4 c4))) ∧ Below w.heap.size w w' := by
  obtain ⟨oa, ⟨ia1, pa1, l1⟩, ⟨ia2, pa2, l2⟩⟩ := r
  obtain ⟨ob, ⟨ib1, pb1, l3⟩, ⟨ib2, pb2, l4⟩⟩ := s
  dsimp only at h1 h2 h3 h4 hor hos ⊢
  obtain ⟨X, hX⟩ : ∃ X, X = (meetR ordC ⟨oa, ⟨ia1, pa1, l1⟩, ⟨ia2, pa2, l2⟩⟩ ⟨ob, ⟨ib1, pb1, l3⟩, ⟨ib2, pb2, l4⟩⟩).2 := ⟨_, rfl⟩
  rw [← hX]
  obtain ⟨m1, hm1⟩ : ∃ m, m = mayR ordC ⟨oa, ⟨ia1, pa1, l1⟩, ⟨ia2, pa2, l2⟩⟩ := ⟨_, rfl⟩
  obtain ⟨m2, hm2⟩ : ∃ m, m = mayR ordC ⟨ob, ⟨ib1, pb1, l3⟩, ⟨ib2, pb2, l4⟩⟩ := ⟨_, rfl⟩
  have HX : Hid (X = (m1 && m2 && decide (oa = ob))) := by
    show _ = _
    rw [hX, hm1, hm2]
    unfold meetR
    split
    · rename_i h; rw [h.1, h.2.1, decide_eq_true (show oa = ob from h.2.2)]; rfl
    · rename_i h; cases h5 : mayR ordC ⟨oa, ⟨ia1, pa1, l1⟩, ⟨ia2, pa2, l2⟩⟩ <;> cases h6 : mayR ordC ⟨ob, ⟨ib1, pb1, l3⟩, ⟨ib2, pb2, l4⟩⟩ <;> simp_all
  obtain ⟨b1, hb1⟩ : ∃ b, b = endP oa ⟨ia1, pa1, l1⟩ ⟨ib1, pb1, l3⟩ true := ⟨_, rfl⟩
  obtain ⟨b2, hb2⟩ : ∃ b, b = endP oa ⟨ia2, pa2, l2⟩ ⟨ib2, pb2, l4⟩ false := ⟨_, rfl⟩
  rw [← hb1, ← hb2]
  clear hX
  obtain ⟨w0, hw0⟩ : ∃ w0, w0 = (((w.alloc (.cells #[.int .u8 oa, .bool ia1, .bool pa1, .slice A1 n1 c1, .bool ia2, .bool pa2, .slice A2 n2 c2] 31)).alloc (.cells #[.int .u8 ob, .bool ib1, .bool pb1, .slice A3 n3 c3, .bool ib2, .bool pb2, .slice A4 n4 c4] 31)).alloc (.cells #[.int .u8 0, .bool false, .bool false, .slice none 0 0, .bool false, .bool false, .slice none 0 0] 31)) := ⟨_, rfl⟩
  have HB0 : Hid (Below w.heap.size w w0) := by
    show Below _ _ _
    rw [hw0]
    exact (((Below.refl w.heap.size w).alloc (Nat.le_refl _) _).alloc (by simp; try omega) _).alloc (by simp; try omega) _
  have B0 : Blk w0 w.heap.size 31 #[.int .u8 oa, .bool ia1, .bool pa1, .slice A1 n1 c1, .bool ia2, .bool pa2, .slice A2 n2 c2] := by
    rw [hw0]
    exact ((Blk.new w 31 #[.int .u8 oa, .bool ia1, .bool pa1, .slice A1 n1 c1, .bool ia2, .bool pa2, .slice A2 n2 c2]).alloc (.cells #[.int .u8 ob, .bool ib1, .bool pb1, .slice A3 n3 c3, .bool ib2, .bool pb2, .slice A4 n4 c4] 31)).alloc (.cells #[.int .u8 0, .bool false, .bool false, .slice none 0 0, .bool false, .bool false, .slice none 0 0] 31)
  have X0 : Hid (∀ W, Below w0.heap.size w0 W → ∀ k u, (#[.int .u8 oa, .bool ia1, .bool pa1, .slice A1 n1 c1, .bool ia2, .bool pa2, .slice A2 n2 c2] : Array Value)[k]? = some u → W.cell? ⟨w.heap.size, k, none⟩ = some u) := fun W hW k u hk => cell_below hW ((B0.cell k).trans hk) B0.lt
  have B1 : Blk w0 (w.heap.size + 1) 31 #[.int .u8 ob, .bool ib1, .bool pb1, .slice A3 n3 c3, .bool ib2, .bool pb2, .slice A4 n4 c4] := by
    rw [hw0]
    have h := (Blk.new (w.alloc (.cells #[.int .u8 oa, .bool ia1, .bool pa1, .slice A1 n1 c1, .bool ia2, .bool pa2, .slice A2 n2 c2] 31)) 31 #[.int .u8 ob, .bool ib1, .bool pb1, .slice A3 n3 c3, .bool ib2, .bool pb2, .slice A4 n4 c4]).alloc (.cells #[.int .u8 0, .bool false, .bool false, .slice none 0 0, .bool false, .bool false, .slice none 0 0] 31)
    simpa using h
  have X1 : Hid (∀ W, Below w0.heap.size w0 W → ∀ k u, (#[.int .u8 ob, .bool ib1, .bool pb1, .slice A3 n3 c3, .bool ib2, .bool pb2, .slice A4 n4 c4] : Array Value)[k]? = some u → W.cell? ⟨(w.heap.size + 1), k, none⟩ = some u) := fun W hW k u hk => cell_below hW ((B1.cell k).trans hk) B1.lt
  have B2 : Blk w0 (w.heap.size + 1 + 1) 31 #[.int .u8 0, .bool false, .bool false, .slice none 0 0, .bool false, .bool false, .slice none 0 0] := by
    rw [hw0]
    have h := Blk.new ((w.alloc (.cells #[.int .u8 oa, .bool ia1, .bool pa1, .slice A1 n1 c1, .bool ia2, .bool pa2, .slice A2 n2 c2] 31)).alloc (.cells #[.int .u8 ob, .bool ib1, .bool pb1, .slice A3 n3 c3, .bool ib2, .bool pb2, .slice A4 n4 c4] 31)) 31 #[.int .u8 0, .bool false, .bool false, .slice none 0 0, .bool false, .bool false, .slice none 0 0]
    simpa using h
  have X2 : Hid (∀ W, Below w0.heap.size w0 W → ∀ k u, (#[.int .u8 0, .bool false, .bool false, .slice none 0 0, .bool false, .bool false, .slice none 0 0] : Array Value)[k]? = some u → W.cell? ⟨(w.heap.size + 1 + 1), k, none⟩ = some u) := fun W hW k u hk => cell_below hW ((B2.cell k).trans hk) B2.lt
  have HR : Below w0.heap.size w0 w0 := Below.refl _ _
  clear B0 B1 B2
  have K1 : Hid (∀ W, Below w0.heap.size w0 W → Calls Tryd.prog 15 #[.agg #[.int .u8 oa, .bool ia1, .bool pa1, .slice A1 n1 c1, .bool ia2, .bool pa2, .slice A2 n2 c2]] W fun e w' => e = .returned (.bool m1) ∧ Below W.heap.size W w') := by
    intro W hW
    have hW' := next_below HB0.out hW
    rw [hm1]; exact refMay11 ⟨oa, ⟨ia1, pa1, l1⟩, ⟨ia2, pa2, l2⟩⟩ hor W (h1.next hW') (h2.next hW')
  have K2 : Hid (∀ W, Below w0.heap.size w0 W → Calls Tryd.prog 15 #[.agg #[.int .u8 ob, .bool ib1, .bool pb1, .slice A3 n3 c3, .bool ib2, .bool pb2, .slice A4 n4 c4]] W fun e w' => e = .returned (.bool m2) ∧ Below W.heap.size W w') := by
    intro W hW
    have hW' := next_below HB0.out hW
    rw [hm2]; exact refMay11 ⟨ob, ⟨ib1, pb1, l3⟩, ⟨ib2, pb2, l4⟩⟩ hos W (h3.next hW') (h4.next hW')
  have K3 : Hid (∀ W, Below w0.heap.size w0 W → Calls Tryd.prog 35 #[.int .u8 oa, .agg #[.bool ia1, .bool pa1, .slice A1 n1 c1], .agg #[.bool ib1, .bool pb1, .slice A3 n3 c3], .bool true] W fun e w' => e = .returned (.agg (pickA b1 #[.bool ia1, .bool pa1, .slice A1 n1 c1] #[.bool ib1, .bool pb1, .slice A3 n3 c3])) ∧ Below W.heap.size W w') := by
    intro W hW
    have hW' := next_below HB0.out hW
    rw [hb1]; exact refEnd11 oa hor ⟨ia1, pa1, l1⟩ ⟨ib1, pb1, l3⟩ true W (h1.next hW') (h3.next hW')
  have K4 : Hid (∀ W, Below w0.heap.size w0 W → Calls Tryd.prog 35 #[.int .u8 oa, .agg #[.bool ia2, .bool pa2, .slice A2 n2 c2], .agg #[.bool ib2, .bool pb2, .slice A4 n4 c4], .bool false] W fun e w' => e = .returned (.agg (pickA b2 #[.bool ia2, .bool pa2, .slice A2 n2 c2] #[.bool ib2, .bool pb2, .slice A4 n4 c4])) ∧ Below W.heap.size W w') := by
    intro W hW
    have hW' := next_below HB0.out hW
    rw [hb2]; exact refEnd11 oa hor ⟨ia2, pa2, l2⟩ ⟨ib2, pb2, l4⟩ false W (h2.next hW') (h4.next hW')
  have KZ : Hid (∀ W, Below w0.heap.size w0 W → Blk W (w.heap.size + 1 + 1) 31 #[.int .u8 0, .bool false, .bool false, .slice none 0 0, .bool false, .bool false, .slice none 0 0]) := by
    intro W hW
    refine Blk.old (w := w0) ?_ hW
    rw [hw0]
    have h := Blk.new ((w.alloc (.cells #[.int .u8 oa, .bool ia1, .bool pa1, .slice A1 n1 c1, .bool ia2, .bool pa2, .slice A2 n2 c2] 31)).alloc (.cells #[.int .u8 ob, .bool ib1, .bool pb1, .slice A3 n3 c3, .bool ib2, .bool pb2, .slice A4 n4 c4] 31)) 31 #[.int .u8 0, .bool false, .bool false, .slice none 0 0, .bool false, .bool false, .slice none 0 0]
    simpa using h
  have hgt : w.heap.size ≤ w.heap.size + 1 + 1 := by omega
  clear hm1 hm2 hb1 hb2 h1 h2 h3 h4
  have hno : ∀ W, X = false → Below w0.heap.size w0 W → Ending.returned (.tuple #[.agg #[.int .u8 0, .bool false, .bool false, .slice none 0 0, .bool false, .bool false, .slice none 0 0], .bool false]) = .returned (meetC oa X (pickA b1 (bdC ⟨ia1, pa1, l1⟩ A1 n1 c1) (bdC ⟨ib1, pb1, l3⟩ A3 n3 c3)) (pickA b2 (bdC ⟨ia2, pa2, l2⟩ A2 n2 c2) (bdC ⟨ib2, pb2, l4⟩ A4 n4 c4))) ∧ Below w.heap.size w W := fun W h1 h2 => ⟨by rw [h1]; rfl, next_below HB0.out h2⟩
  unfold rgC
  go_enter Tryd.func21, Tryd.ntmps21
  go_upto_region 1 with fail
  rw [← hw0]
  clear hw0
  have x0_0 := X0.out _ HR 0 _ rfl
  have x0_1 := X0.out _ HR 1 _ rfl
  have x0_2 := X0.out _ HR 2 _ rfl
  have x0_3 := X0.out _ HR 3 _ rfl
  have x0_4 := X0.out _ HR 4 _ rfl
  have x0_5 := X0.out _ HR 5 _ rfl
  have x0_6 := X0.out _ HR 6 _ rfl
  have x1_0 := X1.out _ HR 0 _ rfl
  have x1_1 := X1.out _ HR 1 _ rfl
  have x1_2 := X1.out _ HR 2 _ rfl
  have x1_3 := X1.out _ HR 3 _ rfl
  have x1_4 := X1.out _ HR 4 _ rfl
  have x1_5 := X1.out _ HR 5 _ rfl
  have x1_6 := X1.out _ HR 6 _ rfl
  by_cases ho : oa = ob
  · subst ho
    have hoB : ((oa : Int) != (oa : Int)) = false := by simp
    cases m1 with
    | false =>
      go_wp2_with first | (go_at_call 15; (first | (with_reducible refine (K1.out _ (by assumption)).mono ?_) | (with_reducible refine (K2.out _ (by assumption)).mono ?_)); rintro e w1 ⟨rfl, hb⟩; have hB := next_below (by assumption) hb; have x0_0 := X0.out _ hB 0 _ rfl; have x0_1 := X0.out _ hB 1 _ rfl; have x0_2 := X0.out _ hB 2 _ rfl; have x0_3 := X0.out _ hB 3 _ rfl; have x0_4 := X0.out _ hB 4 _ rfl; have x0_5 := X0.out _ hB 5 _ rfl; have x0_6 := X0.out _ hB 6 _ rfl; have x1_0 := X1.out _ hB 0 _ rfl; have x1_1 := X1.out _ hB 1 _ rfl; have x1_2 := X1.out _ hB 2 _ rfl; have x1_3 := X1.out _ hB 3 _ rfl; have x1_4 := X1.out _ hB 4 _ rfl; have x1_5 := X1.out _ hB 5 _ rfl; have x1_6 := X1.out _ hB 6 _ rfl; clear hb) | (refine wpList_store_row rfl 31 (.tmp 4) (.tmp 21) rfl (w.heap.size + 1 + 1) _ rfl rfl 31 #[.int .u8 0, .bool false, .bool false, .slice none 0 0, .bool false, .bool false, .slice none 0 0] (KZ.out _ (by assumption)) infoRg rfl (by simp [Value.oneCell']) ?_)
      exact bodyPost_ret (results_st_tmp Tryd.results21 _ _ (w.heap.size + 1 + 1) 31 _ _ _ rfl rfl ((KZ.out _ (by assumption)).row _) Tryd.underlying31 rfl infoRg) rfl ⟨by rw [show X = false by rw [HX.out]; simp]; rfl, below_row (next_below HB0.out (by assumption)) hgt _⟩
    | true =>
      cases m2 with
      | false =>
        go_wp2_with first | (go_at_call 15; (first | (with_reducible refine (K1.out _ (by assumption)).mono ?_) | (with_reducible refine (K2.out _ (by assumption)).mono ?_)); rintro e w1 ⟨rfl, hb⟩; have hB := next_below (by assumption) hb; have x0_0 := X0.out _ hB 0 _ rfl; have x0_1 := X0.out _ hB 1 _ rfl; have x0_2 := X0.out _ hB 2 _ rfl; have x0_3 := X0.out _ hB 3 _ rfl; have x0_4 := X0.out _ hB 4 _ rfl; have x0_5 := X0.out _ hB 5 _ rfl; have x0_6 := X0.out _ hB 6 _ rfl; have x1_0 := X1.out _ hB 0 _ rfl; have x1_1 := X1.out _ hB 1 _ rfl; have x1_2 := X1.out _ hB 2 _ rfl; have x1_3 := X1.out _ hB 3 _ rfl; have x1_4 := X1.out _ hB 4 _ rfl; have x1_5 := X1.out _ hB 5 _ rfl; have x1_6 := X1.out _ hB 6 _ rfl; clear hb) | (refine wpList_store_row rfl 31 (.tmp 4) (.tmp 21) rfl (w.heap.size + 1 + 1) _ rfl rfl 31 #[.int .u8 0, .bool false, .bool false, .slice none 0 0, .bool false, .bool false, .slice none 0 0] (KZ.out _ (by assumption)) infoRg rfl (by simp [Value.oneCell']) ?_)
        exact bodyPost_ret (results_st_tmp Tryd.results21 _ _ (w.heap.size + 1 + 1) 31 _ _ _ rfl rfl ((KZ.out _ (by assumption)).row _) Tryd.underlying31 rfl infoRg) rfl ⟨by rw [show X = false by rw [HX.out]; simp]; rfl, below_row (next_below HB0.out (by assumption)) hgt _⟩
      | true =>
        go_upto_region 3 with (go_at_call 15; (first | (with_reducible refine (K1.out _ (by assumption)).mono ?_) | (with_reducible refine (K2.out _ (by assumption)).mono ?_)); rintro e w1 ⟨rfl, hb⟩; have hB := next_below (by assumption) hb; have x0_0 := X0.out _ hB 0 _ rfl; have x0_1 := X0.out _ hB 1 _ rfl; have x0_2 := X0.out _ hB 2 _ rfl; have x0_3 := X0.out _ hB 3 _ rfl; have x0_4 := X0.out _ hB 4 _ rfl; have x0_5 := X0.out _ hB 5 _ rfl; have x0_6 := X0.out _ hB 6 _ rfl; have x1_0 := X1.out _ hB 0 _ rfl; have x1_1 := X1.out _ hB 1 _ rfl; have x1_2 := X1.out _ hB 2 _ rfl; have x1_3 := X1.out _ hB 3 _ rfl; have x1_4 := X1.out _ hB 4 _ rfl; have x1_5 := X1.out _ hB 5 _ rfl; have x1_6 := X1.out _ hB 6 _ rfl; clear hb)
        cases b1 <;> cases b2
        · refine wp_R [22, 23, 24, 25, 26, 27, 28, 29, 30, 31, 32, 33, 34, 35, 36, 37, 38] [Rk.val (.pointer (some ⟨w.heap.size, 0, none⟩)), Rk.val (.int .u8 oa), Rk.val (.pointer (some ⟨w.heap.size, 0, none⟩)), Rk.val (.int .u8 oa), Rk.val (.pointer (some ⟨w.heap.size, 1, none⟩)), Rk.val (.agg #[.bool ia1, .bool pa1, .slice A1 n1 c1]), Rk.val (.pointer (some ⟨w.heap.size + 1, 1, none⟩)), Rk.val (.agg #[.bool ib1, .bool pb1, .slice A3 n3 c3]), Rk.val (.agg #[.bool ib1, .bool pb1, .slice A3 n3 c3]), Rk.val (.pointer (some ⟨w.heap.size, 0, none⟩)), Rk.val (.int .u8 oa), Rk.val (.pointer (some ⟨w.heap.size, 4, none⟩)), Rk.val (.agg #[.bool ia2, .bool pa2, .slice A2 n2 c2]), Rk.val (.pointer (some ⟨w.heap.size + 1, 4, none⟩)), Rk.val (.agg #[.bool ib2, .bool pb2, .slice A4 n4 c4]), Rk.val (.agg #[.bool ib2, .bool pb2, .slice A4 n4 c4]), Rk.val (.agg #[.int .u8 oa, .bool ib1, .bool pb1, .slice A3 n3 c3, .bool ib2, .bool pb2, .slice A4 n4 c4])] rfl (by kernel_rfl) (by kernel_rfl) (by kernel_rfl) (by kernel_rfl) ?hg1 _ (by rfl) ?hf1
          case hg1 =>
            refine gr_val rfl (by kernel_rfl) (fun a V H K Q hK => op_quiet (quiet_fld _ (.tmp 2) 0 _ _ (H.old 2 (by kernel_rfl) (by kernel_rfl)) (fR0 _ 0) (by kernel_rfl)) hK) ?_
            refine gr_val rfl (by kernel_rfl) (fun a V H K Q hK => op_quiet (quiet_cell _ (.tmp 22) _ (H.rel 0 22 (by kernel_rfl) (by kernel_rfl) rfl) Tryd.underlying5 rfl (X0.out _ (next_below hB H.frame) 0 _ rfl) (by kernel_rfl)) hK) ?_
            refine gr_val rfl (by kernel_rfl) (fun a V H K Q hK => op_quiet (quiet_fld _ (.tmp 2) 0 _ _ (H.old 2 (by kernel_rfl) (by kernel_rfl)) (fR0 _ 0) (by kernel_rfl)) hK) ?_
            refine gr_val rfl (by kernel_rfl) (fun a V H K Q hK => op_quiet (quiet_cell _ (.tmp 24) _ (H.rel 2 24 (by kernel_rfl) (by kernel_rfl) rfl) Tryd.underlying5 rfl (X0.out _ (next_below hB H.frame) 0 _ rfl) (by kernel_rfl)) hK) ?_
            refine gr_val rfl (by kernel_rfl) (fun a V H K Q hK => op_quiet (quiet_fld _ (.tmp 2) 1 _ _ (H.old 2 (by kernel_rfl) (by kernel_rfl)) (fR1 _ 0) (by kernel_rfl)) hK) ?_
            refine gr_val rfl (by kernel_rfl) (fun a V H K Q hK => op_quiet (quiet_agg _ (.tmp 26) _ 1 (H.rel 4 26 (by kernel_rfl) (by kernel_rfl) rfl) #[.bool ia1, .bool pa1, .slice A1 n1 c1] (fun j v hj => X0.out _ (next_below hB H.frame) _ v (part_at 1 ⟨_, rfl⟩ j v hj)) Tryd.underlying29 rfl (by kernel_rfl) (by kernel_rfl)) hK) ?_
            refine gr_val rfl (by kernel_rfl) (fun a V H K Q hK => op_quiet (quiet_fld _ (.tmp 3) 1 _ _ (H.old 3 (by kernel_rfl) (by kernel_rfl)) (fR1 _ 0) (by kernel_rfl)) hK) ?_
            refine gr_val rfl (by kernel_rfl) (fun a V H K Q hK => op_quiet (quiet_agg _ (.tmp 28) _ 1 (H.rel 6 28 (by kernel_rfl) (by kernel_rfl) rfl) #[.bool ib1, .bool pb1, .slice A3 n3 c3] (fun j v hj => X1.out _ (next_below hB H.frame) _ v (part_at 1 ⟨_, rfl⟩ j v hj)) Tryd.underlying29 rfl (by kernel_rfl) (by kernel_rfl)) hK) ?_
            refine gr_val rfl (by kernel_rfl) (fun a V H K Q hK => op_callK _ #[.int .u8 oa, .agg #[.bool ia1, .bool pa1, .slice A1 n1 c1], .agg #[.bool ib1, .bool pb1, .slice A3 n3 c3], .bool true] (by kernel_rfl) (by kernel_rfl) (by kernel_rfl) (map4N (H.rel 3 25 (by kernel_rfl) (by kernel_rfl) rfl) (H.rel 5 27 (by kernel_rfl) (by kernel_rfl) rfl) (H.rel 7 29 (by kernel_rfl) (by kernel_rfl) rfl) (show a.eval (.const (.bool true)) = .bool true from rfl)) (K3.out _ (next_below hB H.frame)) (by kernel_rfl) hK) ?_
            refine gr_val rfl (by kernel_rfl) (fun a V H K Q hK => op_quiet (quiet_fld _ (.tmp 2) 0 _ _ (H.old 2 (by kernel_rfl) (by kernel_rfl)) (fR0 _ 0) (by kernel_rfl)) hK) ?_
            refine gr_val rfl (by kernel_rfl) (fun a V H K Q hK => op_quiet (quiet_cell _ (.tmp 31) _ (H.rel 9 31 (by kernel_rfl) (by kernel_rfl) rfl) Tryd.underlying5 rfl (X0.out _ (next_below hB H.frame) 0 _ rfl) (by kernel_rfl)) hK) ?_
            refine gr_val rfl (by kernel_rfl) (fun a V H K Q hK => op_quiet (quiet_fld _ (.tmp 2) 2 _ _ (H.old 2 (by kernel_rfl) (by kernel_rfl)) (fR2 _ 0) (by kernel_rfl)) hK) ?_
            refine gr_val rfl (by kernel_rfl) (fun a V H K Q hK => op_quiet (quiet_agg _ (.tmp 33) _ 4 (H.rel 11 33 (by kernel_rfl) (by kernel_rfl) rfl) #[.bool ia2, .bool pa2, .slice A2 n2 c2] (fun j v hj => X0.out _ (next_below hB H.frame) _ v (part_at 4 ⟨_, rfl⟩ j v hj)) Tryd.underlying29 rfl (by kernel_rfl) (by kernel_rfl)) hK) ?_
            refine gr_val rfl (by kernel_rfl) (fun a V H K Q hK => op_quiet (quiet_fld _ (.tmp 3) 2 _ _ (H.old 3 (by kernel_rfl) (by kernel_rfl)) (fR2 _ 0) (by kernel_rfl)) hK) ?_
            refine gr_val rfl (by kernel_rfl) (fun a V H K Q hK => op_quiet (quiet_agg _ (.tmp 35) _ 4 (H.rel 13 35 (by kernel_rfl) (by kernel_rfl) rfl) #[.bool ib2, .bool pb2, .slice A4 n4 c4] (fun j v hj => X1.out _ (next_below hB H.frame) _ v (part_at 4 ⟨_, rfl⟩ j v hj)) Tryd.underlying29 rfl (by kernel_rfl) (by kernel_rfl)) hK) ?_
            refine gr_val rfl (by kernel_rfl) (fun a V H K Q hK => op_callK _ #[.int .u8 oa, .agg #[.bool ia2, .bool pa2, .slice A2 n2 c2], .agg #[.bool ib2, .bool pb2, .slice A4 n4 c4], .bool false] (by kernel_rfl) (by kernel_rfl) (by kernel_rfl) (map4N (H.rel 10 32 (by kernel_rfl) (by kernel_rfl) rfl) (H.rel 12 34 (by kernel_rfl) (by kernel_rfl) rfl) (H.rel 14 36 (by kernel_rfl) (by kernel_rfl) rfl) (show a.eval (.const (.bool false)) = .bool false from rfl)) (K4.out _ (next_below hB H.frame)) (by kernel_rfl) hK) ?_
            refine gr_val rfl (by kernel_rfl) (fun a V H K Q hK => op_quiet (quiet_bld 31 _ _ (bld3 (a := 0) (b := 1) (c := 2) (H.rel 1 23 (by kernel_rfl) (by kernel_rfl) rfl) (H.rel 8 30 (by kernel_rfl) (by kernel_rfl) rfl) (H.rel 15 37 (by kernel_rfl) (by kernel_rfl) rfl)) #[.int .u8 oa, .bool ib1, .bool pb1, .slice A3 n3 c3, .bool ib2, .bool pb2, .slice A4 n4 c4] (by kernel_rfl) (by kernel_rfl)) hK) ?_
            exact gr_nil
          case hf1 =>
          intro x V hF
          have e0 : x 0 = .pointer (some ⟨w.heap.size, 0, none⟩) := hF.rel 0 _ rfl
          have e1 : x 1 = .int .u8 oa := hF.rel 1 _ rfl
          have e2 : x 2 = .pointer (some ⟨w.heap.size, 0, none⟩) := hF.rel 2 _ rfl
          have e3 : x 3 = .int .u8 oa := hF.rel 3 _ rfl
          have e4 : x 4 = .pointer (some ⟨w.heap.size, 1, none⟩) := hF.rel 4 _ rfl
          have e5 : x 5 = .agg #[.bool ia1, .bool pa1, .slice A1 n1 c1] := hF.rel 5 _ rfl
          have e6 : x 6 = .pointer (some ⟨w.heap.size + 1, 1, none⟩) := hF.rel 6 _ rfl
          have e7 : x 7 = .agg #[.bool ib1, .bool pb1, .slice A3 n3 c3] := hF.rel 7 _ rfl
          have e8 : x 8 = .agg #[.bool ib1, .bool pb1, .slice A3 n3 c3] := hF.rel 8 _ rfl
          have e9 : x 9 = .pointer (some ⟨w.heap.size, 0, none⟩) := hF.rel 9 _ rfl
          have e10 : x 10 = .int .u8 oa := hF.rel 10 _ rfl
          have e11 : x 11 = .pointer (some ⟨w.heap.size, 4, none⟩) := hF.rel 11 _ rfl
          have e12 : x 12 = .agg #[.bool ia2, .bool pa2, .slice A2 n2 c2] := hF.rel 12 _ rfl
          have e13 : x 13 = .pointer (some ⟨w.heap.size + 1, 4, none⟩) := hF.rel 13 _ rfl
          have e14 : x 14 = .agg #[.bool ib2, .bool pb2, .slice A4 n4 c4] := hF.rel 14 _ rfl
          have e15 : x 15 = .agg #[.bool ib2, .bool pb2, .slice A4 n4 c4] := hF.rel 15 _ rfl
          have e16 : x 16 = .agg #[.int .u8 oa, .bool ib1, .bool pb1, .slice A3 n3 c3, .bool ib2, .bool pb2, .slice A4 n4 c4] := hF.rel 16 _ rfl
          have hbf := hF.frame
          clear hF
          simp only [Sch.finL, List.setIfInBounds_toArray, List.set_cons_zero, List.set_cons_succ, e0, e1, e2, e3, e4, e5, e6, e7, e8, e9, e10, e11, e12, e13, e14, e15, e16]
          clear e0 e1 e2 e3 e4 e5 e6 e7 e8 e9 e10 e11 e12 e13 e14 e15 e16
          have hB9 := next_below hB hbf
          clear hbf
          refine wpList_store_row rfl 31 (.tmp 4) (.tmp 38) rfl (w.heap.size + 1 + 1) _ rfl rfl 31 #[.int .u8 0, .bool false, .bool false, .slice none 0 0, .bool false, .bool false, .slice none 0 0] (KZ.out _ hB9) infoRg rfl (by simp [Value.oneCell']) ?_
          go_wp2_with fail
          exact bodyPost_ret (results_st_tmp Tryd.results21 _ _ (w.heap.size + 1 + 1) 31 _ _ _ rfl rfl ((KZ.out _ hB9).row _) Tryd.underlying31 rfl infoRg) rfl ⟨by rw [show X = true by rw [HX.out]; simp]; rfl, below_row (next_below HB0.out hB9) hgt _⟩
        · refine wp_R [22, 23, 24, 25, 26, 27, 28, 29, 30, 31, 32, 33, 34, 35, 36, 37, 38] [Rk.val (.pointer (some ⟨w.heap.size, 0, none⟩)), Rk.val (.int .u8 oa), Rk.val (.pointer (some ⟨w.heap.size, 0, none⟩)), Rk.val (.int .u8 oa), Rk.val (.pointer (some ⟨w.heap.size, 1, none⟩)), Rk.val (.agg #[.bool ia1, .bool pa1, .slice A1 n1 c1]), Rk.val (.pointer (some ⟨w.heap.size + 1, 1, none⟩)), Rk.val (.agg #[.bool ib1, .bool pb1, .slice A3 n3 c3]), Rk.val (.agg #[.bool ib1, .bool pb1, .slice A3 n3 c3]), Rk.val (.pointer (some ⟨w.heap.size, 0, none⟩)), Rk.val (.int .u8 oa), Rk.val (.pointer (some ⟨w.heap.size, 4, none⟩)), Rk.val (.agg #[.bool ia2, .bool pa2, .slice A2 n2 c2]), Rk.val (.pointer (some ⟨w.heap.size + 1, 4, none⟩)), Rk.val (.agg #[.bool ib2, .bool pb2, .slice A4 n4 c4]), Rk.val (.agg #[.bool ia2, .bool pa2, .slice A2 n2 c2]), Rk.val (.agg #[.int .u8 oa, .bool ib1, .bool pb1, .slice A3 n3 c3, .bool ia2, .bool pa2, .slice A2 n2 c2])] rfl (by kernel_rfl) (by kernel_rfl) (by kernel_rfl) (by kernel_rfl) ?hg1 _ (by rfl) ?hf1
          case hg1 =>
            refine gr_val rfl (by kernel_rfl) (fun a V H K Q hK => op_quiet (quiet_fld _ (.tmp 2) 0 _ _ (H.old 2 (by kernel_rfl) (by kernel_rfl)) (fR0 _ 0) (by kernel_rfl)) hK) ?_
            refine gr_val rfl (by kernel_rfl) (fun a V H K Q hK => op_quiet (quiet_cell _ (.tmp 22) _ (H.rel 0 22 (by kernel_rfl) (by kernel_rfl) rfl) Tryd.underlying5 rfl (X0.out _ (next_below hB H.frame) 0 _ rfl) (by kernel_rfl)) hK) ?_
            refine gr_val rfl (by kernel_rfl) (fun a V H K Q hK => op_quiet (quiet_fld _ (.tmp 2) 0 _ _ (H.old 2 (by kernel_rfl) (by kernel_rfl)) (fR0 _ 0) (by kernel_rfl)) hK) ?_
            refine gr_val rfl (by kernel_rfl) (fun a V H K Q hK => op_quiet (quiet_cell _ (.tmp 24) _ (H.rel 2 24 (by kernel_rfl) (by kernel_rfl) rfl) Tryd.underlying5 rfl (X0.out _ (next_below hB H.frame) 0 _ rfl) (by kernel_rfl)) hK) ?_
            refine gr_val rfl (by kernel_rfl) (fun a V H K Q hK => op_quiet (quiet_fld _ (.tmp 2) 1 _ _ (H.old 2 (by kernel_rfl) (by kernel_rfl)) (fR1 _ 0) (by kernel_rfl)) hK) ?_
            refine gr_val rfl (by kernel_rfl) (fun a V H K Q hK => op_quiet (quiet_agg _ (.tmp 26) _ 1 (H.rel 4 26 (by kernel_rfl) (by kernel_rfl) rfl) #[.bool ia1, .bool pa1, .slice A1 n1 c1] (fun j v hj => X0.out _ (next_below hB H.frame) _ v (part_at 1 ⟨_, rfl⟩ j v hj)) Tryd.underlying29 rfl (by kernel_rfl) (by kernel_rfl)) hK) ?_
            refine gr_val rfl (by kernel_rfl) (fun a V H K Q hK => op_quiet (quiet_fld _ (.tmp 3) 1 _ _ (H.old 3 (by kernel_rfl) (by kernel_rfl)) (fR1 _ 0) (by kernel_rfl)) hK) ?_
            refine gr_val rfl (by kernel_rfl) (fun a V H K Q hK => op_quiet (quiet_agg _ (.tmp 28) _ 1 (H.rel 6 28 (by kernel_rfl) (by kernel_rfl) rfl) #[.bool ib1, .bool pb1, .slice A3 n3 c3] (fun j v hj => X1.out _ (next_below hB H.frame) _ v (part_at 1 ⟨_, rfl⟩ j v hj)) Tryd.underlying29 rfl (by kernel_rfl) (by kernel_rfl)) hK) ?_
            refine gr_val rfl (by kernel_rfl) (fun a V H K Q hK => op_callK _ #[.int .u8 oa, .agg #[.bool ia1, .bool pa1, .slice A1 n1 c1], .agg #[.bool ib1, .bool pb1, .slice A3 n3 c3], .bool true] (by kernel_rfl) (by kernel_rfl) (by kernel_rfl) (map4N (H.rel 3 25 (by kernel_rfl) (by kernel_rfl) rfl) (H.rel 5 27 (by kernel_rfl) (by kernel_rfl) rfl) (H.rel 7 29 (by kernel_rfl) (by kernel_rfl) rfl) (show a.eval (.const (.bool true)) = .bool true from rfl)) (K3.out _ (next_below hB H.frame)) (by kernel_rfl) hK) ?_
            refine gr_val rfl (by kernel_rfl) (fun a V H K Q hK => op_quiet (quiet_fld _ (.tmp 2) 0 _ _ (H.old 2 (by kernel_rfl) (by kernel_rfl)) (fR0 _ 0) (by kernel_rfl)) hK) ?_
            refine gr_val rfl (by kernel_rfl) (fun a V H K Q hK => op_quiet (quiet_cell _ (.tmp 31) _ (H.rel 9 31 (by kernel_rfl) (by kernel_rfl) rfl) Tryd.underlying5 rfl (X0.out _ (next_below hB H.frame) 0 _ rfl) (by kernel_rfl)) hK) ?_
            refine gr_val rfl (by kernel_rfl) (fun a V H K Q hK => op_quiet (quiet_fld _ (.tmp 2) 2 _ _ (H.old 2 (by kernel_rfl) (by kernel_rfl)) (fR2 _ 0) (by kernel_rfl)) hK) ?_
            refine gr_val rfl (by kernel_rfl) (fun a V H K Q hK => op_quiet (quiet_agg _ (.tmp 33) _ 4 (H.rel 11 33 (by kernel_rfl) (by kernel_rfl) rfl) #[.bool ia2, .bool pa2, .slice A2 n2 c2] (fun j v hj => X0.out _ (next_below hB H.frame) _ v (part_at 4 ⟨_, rfl⟩ j v hj)) Tryd.underlying29 rfl (by kernel_rfl) (by kernel_rfl)) hK) ?_
            refine gr_val rfl (by kernel_rfl) (fun a V H K Q hK => op_quiet (quiet_fld _ (.tmp 3) 2 _ _ (H.old 3 (by kernel_rfl) (by kernel_rfl)) (fR2 _ 0) (by kernel_rfl)) hK) ?_
            refine gr_val rfl (by kernel_rfl) (fun a V H K Q hK => op_quiet (quiet_agg _ (.tmp 35) _ 4 (H.rel 13 35 (by kernel_rfl) (by kernel_rfl) rfl) #[.bool ib2, .bool pb2, .slice A4 n4 c4] (fun j v hj => X1.out _ (next_below hB H.frame) _ v (part_at 4 ⟨_, rfl⟩ j v hj)) Tryd.underlying29 rfl (by kernel_rfl) (by kernel_rfl)) hK) ?_
            refine gr_val rfl (by kernel_rfl) (fun a V H K Q hK => op_callK _ #[.int .u8 oa, .agg #[.bool ia2, .bool pa2, .slice A2 n2 c2], .agg #[.bool ib2, .bool pb2, .slice A4 n4 c4], .bool false] (by kernel_rfl) (by kernel_rfl) (by kernel_rfl) (map4N (H.rel 10 32 (by kernel_rfl) (by kernel_rfl) rfl) (H.rel 12 34 (by kernel_rfl) (by kernel_rfl) rfl) (H.rel 14 36 (by kernel_rfl) (by kernel_rfl) rfl) (show a.eval (.const (.bool false)) = .bool false from rfl)) (K4.out _ (next_below hB H.frame)) (by kernel_rfl) hK) ?_
            refine gr_val rfl (by kernel_rfl) (fun a V H K Q hK => op_quiet (quiet_bld 31 _ _ (bld3 (a := 0) (b := 1) (c := 2) (H.rel 1 23 (by kernel_rfl) (by kernel_rfl) rfl) (H.rel 8 30 (by kernel_rfl) (by kernel_rfl) rfl) (H.rel 15 37 (by kernel_rfl) (by kernel_rfl) rfl)) #[.int .u8 oa, .bool ib1, .bool pb1, .slice A3 n3 c3, .bool ia2, .bool pa2, .slice A2 n2 c2] (by kernel_rfl) (by kernel_rfl)) hK) ?_
            exact gr_nil
          case hf1 =>
          intro x V hF
          have e0 : x 0 = .pointer (some ⟨w.heap.size, 0, none⟩) := hF.rel 0 _ rfl
          have e1 : x 1 = .int .u8 oa := hF.rel 1 _ rfl
          have e2 : x 2 = .pointer (some ⟨w.heap.size, 0, none⟩) := hF.rel 2 _ rfl
          have e3 : x 3 = .int .u8 oa := hF.rel 3 _ rfl
          have e4 : x 4 = .pointer (some ⟨w.heap.size, 1, none⟩) := hF.rel 4 _ rfl
          have e5 : x 5 = .agg #[.bool ia1, .bool pa1, .slice A1 n1 c1] := hF.rel 5 _ rfl
          have e6 : x 6 = .pointer (some ⟨w.heap.size + 1, 1, none⟩) := hF.rel 6 _ rfl
          have e7 : x 7 = .agg #[.bool ib1, .bool pb1, .slice A3 n3 c3] := hF.rel 7 _ rfl
          have e8 : x 8 = .agg #[.bool ib1, .bool pb1, .slice A3 n3 c3] := hF.rel 8 _ rfl
          have e9 : x 9 = .pointer (some ⟨w.heap.size, 0, none⟩) := hF.rel 9 _ rfl
          have e10 : x 10 = .int .u8 oa := hF.rel 10 _ rfl
          have e11 : x 11 = .pointer (some ⟨w.heap.size, 4, none⟩) := hF.rel 11 _ rfl
          have e12 : x 12 = .agg #[.bool ia2, .bool pa2, .slice A2 n2 c2] := hF.rel 12 _ rfl
          have e13 : x 13 = .pointer (some ⟨w.heap.size + 1, 4, none⟩) := hF.rel 13 _ rfl
          have e14 : x 14 = .agg #[.bool ib2, .bool pb2, .slice A4 n4 c4] := hF.rel 14 _ rfl
          have e15 : x 15 = .agg #[.bool ia2, .bool pa2, .slice A2 n2 c2] := hF.rel 15 _ rfl
          have e16 : x 16 = .agg #[.int .u8 oa, .bool ib1, .bool pb1, .slice A3 n3 c3, .bool ia2, .bool pa2, .slice A2 n2 c2] := hF.rel 16 _ rfl
          have hbf := hF.frame
          clear hF
          simp only [Sch.finL, List.setIfInBounds_toArray, List.set_cons_zero, List.set_cons_succ, e0, e1, e2, e3, e4, e5, e6, e7, e8, e9, e10, e11, e12, e13, e14, e15, e16]
          clear e0 e1 e2 e3 e4 e5 e6 e7 e8 e9 e10 e11 e12 e13 e14 e15 e16
          have hB9 := next_below hB hbf
          clear hbf
          refine wpList_store_row rfl 31 (.tmp 4) (.tmp 38) rfl (w.heap.size + 1 + 1) _ rfl rfl 31 #[.int .u8 0, .bool false, .bool false, .slice none 0 0, .bool false, .bool false, .slice none 0 0] (KZ.out _ hB9) infoRg rfl (by simp [Value.oneCell']) ?_
          go_wp2_with fail
          exact bodyPost_ret (results_st_tmp Tryd.results21 _ _ (w.heap.size + 1 + 1) 31 _ _ _ rfl rfl ((KZ.out _ hB9).row _) Tryd.underlying31 rfl infoRg) rfl ⟨by rw [show X = true by rw [HX.out]; simp]; rfl, below_row (next_below HB0.out hB9) hgt _⟩
        · refine wp_R [22, 23, 24, 25, 26, 27, 28, 29, 30, 31, 32, 33, 34, 35, 36, 37, 38] [Rk.val (.pointer (some ⟨w.heap.size, 0, none⟩)), Rk.val (.int .u8 oa), Rk.val (.pointer (some ⟨w.heap.size, 0, none⟩)), Rk.val (.int .u8 oa), Rk.val (.pointer (some ⟨w.heap.size, 1, none⟩)), Rk.val (.agg #[.bool ia1, .bool pa1, .slice A1 n1 c1]), Rk.val (.pointer (some ⟨w.heap.size + 1, 1, none⟩)), Rk.val (.agg #[.bool ib1, .bool pb1, .slice A3 n3 c3]), Rk.val (.agg #[.bool ia1, .bool pa1, .slice A1 n1 c1]), Rk.val (.pointer (some ⟨w.heap.size, 0, none⟩)), Rk.val (.int .u8 oa), Rk.val (.pointer (some ⟨w.heap.size, 4, none⟩)), Rk.val (.agg #[.bool ia2, .bool pa2, .slice A2 n2 c2]), Rk.val (.pointer (some ⟨w.heap.size + 1, 4, none⟩)), Rk.val (.agg #[.bool ib2, .bool pb2, .slice A4 n4 c4]), Rk.val (.agg #[.bool ib2, .bool pb2, .slice A4 n4 c4]), Rk.val (.agg #[.int .u8 oa, .bool ia1, .bool pa1, .slice A1 n1 c1, .bool ib2, .bool pb2, .slice A4 n4 c4])] rfl (by kernel_rfl) (by kernel_rfl) (by kernel_rfl) (by kernel_rfl) ?hg1 _ (by rfl) ?hf1
          case hg1 =>
            refine gr_val rfl (by kernel_rfl) (fun a V H K Q hK => op_quiet (quiet_fld _ (.tmp 2) 0 _ _ (H.old 2 (by kernel_rfl) (by kernel_rfl)) (fR0 _ 0) (by kernel_rfl)) hK) ?_
            refine gr_val rfl (by kernel_rfl) (fun a V H K Q hK => op_quiet (quiet_cell _ (.tmp 22) _ (H.rel 0 22 (by kernel_rfl) (by kernel_rfl) rfl) Tryd.underlying5 rfl (X0.out _ (next_below hB H.frame) 0 _ rfl) (by kernel_rfl)) hK) ?_
            refine gr_val rfl (by kernel_rfl) (fun a V H K Q hK => op_quiet (quiet_fld _ (.tmp 2) 0 _ _ (H.old 2 (by kernel_rfl) (by kernel_rfl)) (fR0 _ 0) (by kernel_rfl)) hK) ?_
            refine gr_val rfl (by kernel_rfl) (fun a V H K Q hK => op_quiet (quiet_cell _ (.tmp 24) _ (H.rel 2 24 (by kernel_rfl) (by kernel_rfl) rfl) Tryd.underlying5 rfl (X0.out _ (next_below hB H.frame) 0 _ rfl) (by kernel_rfl)) hK) ?_
            refine gr_val rfl (by kernel_rfl) (fun a V H K Q hK => op_quiet (quiet_fld _ (.tmp 2) 1 _ _ (H.old 2 (by kernel_rfl) (by kernel_rfl)) (fR1 _ 0) (by kernel_rfl)) hK) ?_
            refine gr_val rfl (by kernel_rfl) (fun a V H K Q hK => op_quiet (quiet_agg _ (.tmp 26) _ 1 (H.rel 4 26 (by kernel_rfl) (by kernel_rfl) rfl) #[.bool ia1, .bool pa1, .slice A1 n1 c1] (fun j v hj => X0.out _ (next_below hB H.frame) _ v (part_at 1 ⟨_, rfl⟩ j v hj)) Tryd.underlying29 rfl (by kernel_rfl) (by kernel_rfl)) hK) ?_
            refine gr_val rfl (by kernel_rfl) (fun a V H K Q hK => op_quiet (quiet_fld _ (.tmp 3) 1 _ _ (H.old 3 (by kernel_rfl) (by kernel_rfl)) (fR1 _ 0) (by kernel_rfl)) hK) ?_
            refine gr_val rfl (by kernel_rfl) (fun a V H K Q hK => op_quiet (quiet_agg _ (.tmp 28) _ 1 (H.rel 6 28 (by kernel_rfl) (by kernel_rfl) rfl) #[.bool ib1, .bool pb1, .slice A3 n3 c3] (fun j v hj => X1.out _ (next_below hB H.frame) _ v (part_at 1 ⟨_, rfl⟩ j v hj)) Tryd.underlying29 rfl (by kernel_rfl) (by kernel_rfl)) hK) ?_
            refine gr_val rfl (by kernel_rfl) (fun a V H K Q hK => op_callK _ #[.int .u8 oa, .agg #[.bool ia1, .bool pa1, .slice A1 n1 c1], .agg #[.bool ib1, .bool pb1, .slice A3 n3 c3], .bool true] (by kernel_rfl) (by kernel_rfl) (by kernel_rfl) (map4N (H.rel 3 25 (by kernel_rfl) (by kernel_rfl) rfl) (H.rel 5 27 (by kernel_rfl) (by kernel_rfl) rfl) (H.rel 7 29 (by kernel_rfl) (by kernel_rfl) rfl) (show a.eval (.const (.bool true)) = .bool true from rfl)) (K3.out _ (next_below hB H.frame)) (by kernel_rfl) hK) ?_
            refine gr_val rfl (by kernel_rfl) (fun a V H K Q hK => op_quiet (quiet_fld _ (.tmp 2) 0 _ _ (H.old 2 (by kernel_rfl) (by kernel_rfl)) (fR0 _ 0) (by kernel_rfl)) hK) ?_
            refine gr_val rfl (by kernel_rfl) (fun a V H K Q hK => op_quiet (quiet_cell _ (.tmp 31) _ (H.rel 9 31 (by kernel_rfl) (by kernel_rfl) rfl) Tryd.underlying5 rfl (X0.out _ (next_below hB H.frame) 0 _ rfl) (by kernel_rfl)) hK) ?_
            refine gr_val rfl (by kernel_rfl) (fun a V H K Q hK => op_quiet (quiet_fld _ (.tmp 2) 2 _ _ (H.old 2 (by kernel_rfl) (by kernel_rfl)) (fR2 _ 0) (by kernel_rfl)) hK) ?_
            refine gr_val rfl (by kernel_rfl) (fun a V H K Q hK => op_quiet (quiet_agg _ (.tmp 33) _ 4 (H.rel 11 33 (by kernel_rfl) (by kernel_rfl) rfl) #[.bool ia2, .bool pa2, .slice A2 n2 c2] (fun j v hj => X0.out _ (next_below hB H.frame) _ v (part_at 4 ⟨_, rfl⟩ j v hj)) Tryd.underlying29 rfl (by kernel_rfl) (by kernel_rfl)) hK) ?_
            refine gr_val rfl (by kernel_rfl) (fun a V H K Q hK => op_quiet (quiet_fld _ (.tmp 3) 2 _ _ (H.old 3 (by kernel_rfl) (by kernel_rfl)) (fR2 _ 0) (by kernel_rfl)) hK) ?_
            refine gr_val rfl (by kernel_rfl) (fun a V H K Q hK => op_quiet (quiet_agg _ (.tmp 35) _ 4 (H.rel 13 35 (by kernel_rfl) (by kernel_rfl) rfl) #[.bool ib2, .bool pb2, .slice A4 n4 c4] (fun j v hj => X1.out _ (next_below hB H.frame) _ v (part_at 4 ⟨_, rfl⟩ j v hj)) Tryd.underlying29 rfl (by kernel_rfl) (by kernel_rfl)) hK) ?_
            refine gr_val rfl (by kernel_rfl) (fun a V H K Q hK => op_callK _ #[.int .u8 oa, .agg #[.bool ia2, .bool pa2, .slice A2 n2 c2], .agg #[.bool ib2, .bool pb2, .slice A4 n4 c4], .bool false] (by kernel_rfl) (by kernel_rfl) (by kernel_rfl) (map4N (H.rel 10 32 (by kernel_rfl) (by kernel_rfl) rfl) (H.rel 12 34 (by kernel_rfl) (by kernel_rfl) rfl) (H.rel 14 36 (by kernel_rfl) (by kernel_rfl) rfl) (show a.eval (.const (.bool false)) = .bool false from rfl)) (K4.out _ (next_below hB H.frame)) (by kernel_rfl) hK) ?_
            refine gr_val rfl (by kernel_rfl) (fun a V H K Q hK => op_quiet (quiet_bld 31 _ _ (bld3 (a := 0) (b := 1) (c := 2) (H.rel 1 23 (by kernel_rfl) (by kernel_rfl) rfl) (H.rel 8 30 (by kernel_rfl) (by kernel_rfl) rfl) (H.rel 15 37 (by kernel_rfl) (by kernel_rfl) rfl)) #[.int .u8 oa, .bool ia1, .bool pa1, .slice A1 n1 c1, .bool ib2, .bool pb2, .slice A4 n4 c4] (by kernel_rfl) (by kernel_rfl)) hK) ?_
            exact gr_nil
          case hf1 =>
          intro x V hF
          have e0 : x 0 = .pointer (some ⟨w.heap.size, 0, none⟩) := hF.rel 0 _ rfl
          have e1 : x 1 = .int .u8 oa := hF.rel 1 _ rfl
          have e2 : x 2 = .pointer (some ⟨w.heap.size, 0, none⟩) := hF.rel 2 _ rfl
          have e3 : x 3 = .int .u8 oa := hF.rel 3 _ rfl
          have e4 : x 4 = .pointer (some ⟨w.heap.size, 1, none⟩) := hF.rel 4 _ rfl
          have e5 : x 5 = .agg #[.bool ia1, .bool pa1, .slice A1 n1 c1] := hF.rel 5 _ rfl
          have e6 : x 6 = .pointer (some ⟨w.heap.size + 1, 1, none⟩) := hF.rel 6 _ rfl
          have e7 : x 7 = .agg #[.bool ib1, .bool pb1, .slice A3 n3 c3] := hF.rel 7 _ rfl
          have e8 : x 8 = .agg #[.bool ia1, .bool pa1, .slice A1 n1 c1] := hF.rel 8 _ rfl
          have e9 : x 9 = .pointer (some ⟨w.heap.size, 0, none⟩) := hF.rel 9 _ rfl
          have e10 : x 10 = .int .u8 oa := hF.rel 10 _ rfl
          have e11 : x 11 = .pointer (some ⟨w.heap.size, 4, none⟩) := hF.rel 11 _ rfl
          have e12 : x 12 = .agg #[.bool ia2, .bool pa2, .slice A2 n2 c2] := hF.rel 12 _ rfl
          have e13 : x 13 = .pointer (some ⟨w.heap.size + 1, 4, none⟩) := hF.rel 13 _ rfl
          have e14 : x 14 = .agg #[.bool ib2, .bool pb2, .slice A4 n4 c4] := hF.rel 14 _ rfl
          have e15 : x 15 = .agg #[.bool ib2, .bool pb2, .slice A4 n4 c4] := hF.rel 15 _ rfl
          have e16 : x 16 = .agg #[.int .u8 oa, .bool ia1, .bool pa1, .slice A1 n1 c1, .bool ib2, .bool pb2, .slice A4 n4 c4] := hF.rel 16 _ rfl
          have hbf := hF.frame
          clear hF
          simp only [Sch.finL, List.setIfInBounds_toArray, List.set_cons_zero, List.set_cons_succ, e0, e1, e2, e3, e4, e5, e6, e7, e8, e9, e10, e11, e12, e13, e14, e15, e16]
          clear e0 e1 e2 e3 e4 e5 e6 e7 e8 e9 e10 e11 e12 e13 e14 e15 e16
          have hB9 := next_below hB hbf
          clear hbf
          refine wpList_store_row rfl 31 (.tmp 4) (.tmp 38) rfl (w.heap.size + 1 + 1) _ rfl rfl 31 #[.int .u8 0, .bool false, .bool false, .slice none 0 0, .bool false, .bool false, .slice none 0 0] (KZ.out _ hB9) infoRg rfl (by simp [Value.oneCell']) ?_
          go_wp2_with fail
          exact bodyPost_ret (results_st_tmp Tryd.results21 _ _ (w.heap.size + 1 + 1) 31 _ _ _ rfl rfl ((KZ.out _ hB9).row _) Tryd.underlying31 rfl infoRg) rfl ⟨by rw [show X = true by rw [HX.out]; simp]; rfl, below_row (next_below HB0.out hB9) hgt _⟩
        · refine wp_R [22, 23, 24, 25, 26, 27, 28, 29, 30, 31, 32, 33, 34, 35, 36, 37, 38] [Rk.val (.pointer (some ⟨w.heap.size, 0, none⟩)), Rk.val (.int .u8 oa), Rk.val (.pointer (some ⟨w.heap.size, 0, none⟩)), Rk.val (.int .u8 oa), Rk.val (.pointer (some ⟨w.heap.size, 1, none⟩)), Rk.val (.agg #[.bool ia1, .bool pa1, .slice A1 n1 c1]), Rk.val (.pointer (some ⟨w.heap.size + 1, 1, none⟩)), Rk.val (.agg #[.bool ib1, .bool pb1, .slice A3 n3 c3]), Rk.val (.agg #[.bool ia1, .bool pa1, .slice A1 n1 c1]), Rk.val (.pointer (some ⟨w.heap.size, 0, none⟩)), Rk.val (.int .u8 oa), Rk.val (.pointer (some ⟨w.heap.size, 4, none⟩)), Rk.val (.agg #[.bool ia2, .bool pa2, .slice A2 n2 c2]), Rk.val (.pointer (some ⟨w.heap.size + 1, 4, none⟩)), Rk.val (.agg #[.bool ib2, .bool pb2, .slice A4 n4 c4]), Rk.val (.agg #[.bool ia2, .bool pa2, .slice A2 n2 c2]), Rk.val (.agg #[.int .u8 oa, .bool ia1, .bool pa1, .slice A1 n1 c1, .bool ia2, .bool pa2, .slice A2 n2 c2])] rfl (by kernel_rfl) (by kernel_rfl) (by kernel_rfl) (by kernel_rfl) ?hg1 _ (by rfl) ?hf1
          case hg1 =>
            refine gr_val rfl (by kernel_rfl) (fun a V H K Q hK => op_quiet (quiet_fld _ (.tmp 2) 0 _ _ (H.old 2 (by kernel_rfl) (by kernel_rfl)) (fR0 _ 0) (by kernel_rfl)) hK) ?_
            refine gr_val rfl (by kernel_rfl) (fun a V H K Q hK => op_quiet (quiet_cell _ (.tmp 22) _ (H.rel 0 22 (by kernel_rfl) (by kernel_rfl) rfl) Tryd.underlying5 rfl (X0.out _ (next_below hB H.frame) 0 _ rfl) (by kernel_rfl)) hK) ?_
            refine gr_val rfl (by kernel_rfl) (fun a V H K Q hK => op_quiet (quiet_fld _ (.tmp 2) 0 _ _ (H.old 2 (by kernel_rfl) (by kernel_rfl)) (fR0 _ 0) (by kernel_rfl)) hK) ?_
            refine gr_val rfl (by kernel_rfl) (fun a V H K Q hK => op_quiet (quiet_cell _ (.tmp 24) _ (H.rel 2 24 (by kernel_rfl) (by kernel_rfl) rfl) Tryd.underlying5 rfl (X0.out _ (next_below hB H.frame) 0 _ rfl) (by kernel_rfl)) hK) ?_
            refine gr_val rfl (by kernel_rfl) (fun a V H K Q hK => op_quiet (quiet_fld _ (.tmp 2) 1 _ _ (H.old 2 (by kernel_rfl) (by kernel_rfl)) (fR1 _ 0) (by kernel_rfl)) hK) ?_
            refine gr_val rfl (by kernel_rfl) (fun a V H K Q hK => op_quiet (quiet_agg _ (.tmp 26) _ 1 (H.rel 4 26 (by kernel_rfl) (by kernel_rfl) rfl) #[.bool ia1, .bool pa1, .slice A1 n1 c1] (fun j v hj => X0.out _ (next_below hB H.frame) _ v (part_at 1 ⟨_, rfl⟩ j v hj)) Tryd.underlying29 rfl (by kernel_rfl) (by kernel_rfl)) hK) ?_
            refine gr_val rfl (by kernel_rfl) (fun a V H K Q hK => op_quiet (quiet_fld _ (.tmp 3) 1 _ _ (H.old 3 (by kernel_rfl) (by kernel_rfl)) (fR1 _ 0) (by kernel_rfl)) hK) ?_
            refine gr_val rfl (by kernel_rfl) (fun a V H K Q hK => op_quiet (quiet_agg _ (.tmp 28) _ 1 (H.rel 6 28 (by kernel_rfl) (by kernel_rfl) rfl) #[.bool ib1, .bool pb1, .slice A3 n3 c3] (fun j v hj => X1.out _ (next_below hB H.frame) _ v (part_at 1 ⟨_, rfl⟩ j v hj)) Tryd.underlying29 rfl (by kernel_rfl) (by kernel_rfl)) hK) ?_
            refine gr_val rfl (by kernel_rfl) (fun a V H K Q hK => op_callK _ #[.int .u8 oa, .agg #[.bool ia1, .bool pa1, .slice A1 n1 c1], .agg #[.bool ib1, .bool pb1, .slice A3 n3 c3], .bool true] (by kernel_rfl) (by kernel_rfl) (by kernel_rfl) (map4N (H.rel 3 25 (by kernel_rfl) (by kernel_rfl) rfl) (H.rel 5 27 (by kernel_rfl) (by kernel_rfl) rfl) (H.rel 7 29 (by kernel_rfl) (by kernel_rfl) rfl) (show a.eval (.const (.bool true)) = .bool true from rfl)) (K3.out _ (next_below hB H.frame)) (by kernel_rfl) hK) ?_
            refine gr_val rfl (by kernel_rfl) (fun a V H K Q hK => op_quiet (quiet_fld _ (.tmp 2) 0 _ _ (H.old 2 (by kernel_rfl) (by kernel_rfl)) (fR0 _ 0) (by kernel_rfl)) hK) ?_
            refine gr_val rfl (by kernel_rfl) (fun a V H K Q hK => op_quiet (quiet_cell _ (.tmp 31) _ (H.rel 9 31 (by kernel_rfl) (by kernel_rfl) rfl) Tryd.underlying5 rfl (X0.out _ (next_below hB H.frame) 0 _ rfl) (by kernel_rfl)) hK) ?_
            refine gr_val rfl (by kernel_rfl) (fun a V H K Q hK => op_quiet (quiet_fld _ (.tmp 2) 2 _ _ (H.old 2 (by kernel_rfl) (by kernel_rfl)) (fR2 _ 0) (by kernel_rfl)) hK) ?_
            refine gr_val rfl (by kernel_rfl) (fun a V H K Q hK => op_quiet (quiet_agg _ (.tmp 33) _ 4 (H.rel 11 33 (by kernel_rfl) (by kernel_rfl) rfl) #[.bool ia2, .bool pa2, .slice A2 n2 c2] (fun j v hj => X0.out _ (next_below hB H.frame) _ v (part_at 4 ⟨_, rfl⟩ j v hj)) Tryd.underlying29 rfl (by kernel_rfl) (by kernel_rfl)) hK) ?_
            refine gr_val rfl (by kernel_rfl) (fun a V H K Q hK => op_quiet (quiet_fld _ (.tmp 3) 2 _ _ (H.old 3 (by kernel_rfl) (by kernel_rfl)) (fR2 _ 0) (by kernel_rfl)) hK) ?_
            refine gr_val rfl (by kernel_rfl) (fun a V H K Q hK => op_quiet (quiet_agg _ (.tmp 35) _ 4 (H.rel 13 35 (by kernel_rfl) (by kernel_rfl) rfl) #[.bool ib2, .bool pb2, .slice A4 n4 c4] (fun j v hj => X1.out _ (next_below hB H.frame) _ v (part_at 4 ⟨_, rfl⟩ j v hj)) Tryd.underlying29 rfl (by kernel_rfl) (by kernel_rfl)) hK) ?_
            refine gr_val rfl (by kernel_rfl) (fun a V H K Q hK => op_callK _ #[.int .u8 oa, .agg #[.bool ia2, .bool pa2, .slice A2 n2 c2], .agg #[.bool ib2, .bool pb2, .slice A4 n4 c4], .bool false] (by kernel_rfl) (by kernel_rfl) (by kernel_rfl) (map4N (H.rel 10 32 (by kernel_rfl) (by kernel_rfl) rfl) (H.rel 12 34 (by kernel_rfl) (by kernel_rfl) rfl) (H.rel 14 36 (by kernel_rfl) (by kernel_rfl) rfl) (show a.eval (.const (.bool false)) = .bool false from rfl)) (K4.out _ (next_below hB H.frame)) (by kernel_rfl) hK) ?_
            refine gr_val rfl (by kernel_rfl) (fun a V H K Q hK => op_quiet (quiet_bld 31 _ _ (bld3 (a := 0) (b := 1) (c := 2) (H.rel 1 23 (by kernel_rfl) (by kernel_rfl) rfl) (H.rel 8 30 (by kernel_rfl) (by kernel_rfl) rfl) (H.rel 15 37 (by kernel_rfl) (by kernel_rfl) rfl)) #[.int .u8 oa, .bool ia1, .bool pa1, .slice A1 n1 c1, .bool ia2, .bool pa2, .slice A2 n2 c2] (by kernel_rfl) (by kernel_rfl)) hK) ?_
            exact gr_nil
          case hf1 =>
          intro x V hF
          have e0 : x 0 = .pointer (some ⟨w.heap.size, 0, none⟩) := hF.rel 0 _ rfl
          have e1 : x 1 = .int .u8 oa := hF.rel 1 _ rfl
          have e2 : x 2 = .pointer (some ⟨w.heap.size, 0, none⟩) := hF.rel 2 _ rfl
          have e3 : x 3 = .int .u8 oa := hF.rel 3 _ rfl
          have e4 : x 4 = .pointer (some ⟨w.heap.size, 1, none⟩) := hF.rel 4 _ rfl
          have e5 : x 5 = .agg #[.bool ia1, .bool pa1, .slice A1 n1 c1] := hF.rel 5 _ rfl
          have e6 : x 6 = .pointer (some ⟨w.heap.size + 1, 1, none⟩) := hF.rel 6 _ rfl
          have e7 : x 7 = .agg #[.bool ib1, .bool pb1, .slice A3 n3 c3] := hF.rel 7 _ rfl
          have e8 : x 8 = .agg #[.bool ia1, .bool pa1, .slice A1 n1 c1] := hF.rel 8 _ rfl
          have e9 : x 9 = .pointer (some ⟨w.heap.size, 0, none⟩) := hF.rel 9 _ rfl
          have e10 : x 10 = .int .u8 oa := hF.rel 10 _ rfl
          have e11 : x 11 = .pointer (some ⟨w.heap.size, 4, none⟩) := hF.rel 11 _ rfl
          have e12 : x 12 = .agg #[.bool ia2, .bool pa2, .slice A2 n2 c2] := hF.rel 12 _ rfl
          have e13 : x 13 = .pointer (some ⟨w.heap.size + 1, 4, none⟩) := hF.rel 13 _ rfl
          have e14 : x 14 = .agg #[.bool ib2, .bool pb2, .slice A4 n4 c4] := hF.rel 14 _ rfl
          have e15 : x 15 = .agg #[.bool ia2, .bool pa2, .slice A2 n2 c2] := hF.rel 15 _ rfl
          have e16 : x 16 = .agg #[.int .u8 oa, .bool ia1, .bool pa1, .slice A1 n1 c1, .bool ia2, .bool pa2, .slice A2 n2 c2] := hF.rel 16 _ rfl
          have hbf := hF.frame
          clear hF
          simp only [Sch.finL, List.setIfInBounds_toArray, List.set_cons_zero, List.set_cons_succ, e0, e1, e2, e3, e4, e5, e6, e7, e8, e9, e10, e11, e12, e13, e14, e15, e16]
          clear e0 e1 e2 e3 e4 e5 e6 e7 e8 e9 e10 e11 e12 e13 e14 e15 e16
          have hB9 := next_below hB hbf
          clear hbf
          refine wpList_store_row rfl 31 (.tmp 4) (.tmp 38) rfl (w.heap.size + 1 + 1) _ rfl rfl 31 #[.int .u8 0, .bool false, .bool false, .slice none 0 0, .bool false, .bool false, .slice none 0 0] (KZ.out _ hB9) infoRg rfl (by simp [Value.oneCell']) ?_
          go_wp2_with fail
          exact bodyPost_ret (results_st_tmp Tryd.results21 _ _ (w.heap.size + 1 + 1) 31 _ _ _ rfl rfl ((KZ.out _ hB9).row _) Tryd.underlying31 rfl infoRg) rfl ⟨by rw [show X = true by rw [HX.out]; simp]; rfl, below_row (next_below HB0.out hB9) hgt _⟩
  · have hoB : ((oa : Int) != (ob : Int)) = true := by rw [bne_iff_ne]; omega
    have HO := Lib.hid ho
    clear ho
    cases m1 with
    | false =>
      go_wp2_with first | (go_at_call 15; (first | (with_reducible refine (K1.out _ (by assumption)).mono ?_) | (with_reducible refine (K2.out _ (by assumption)).mono ?_)); rintro e w1 ⟨rfl, hb⟩; have hB := next_below (by assumption) hb; have x0_0 := X0.out _ hB 0 _ rfl; have x0_1 := X0.out _ hB 1 _ rfl; have x0_2 := X0.out _ hB 2 _ rfl; have x0_3 := X0.out _ hB 3 _ rfl; have x0_4 := X0.out _ hB 4 _ rfl; have x0_5 := X0.out _ hB 5 _ rfl; have x0_6 := X0.out _ hB 6 _ rfl; have x1_0 := X1.out _ hB 0 _ rfl; have x1_1 := X1.out _ hB 1 _ rfl; have x1_2 := X1.out _ hB 2 _ rfl; have x1_3 := X1.out _ hB 3 _ rfl; have x1_4 := X1.out _ hB 4 _ rfl; have x1_5 := X1.out _ hB 5 _ rfl; have x1_6 := X1.out _ hB 6 _ rfl; clear hb) | (refine wpList_store_row rfl 31 (.tmp 4) (.tmp 21) rfl (w.heap.size + 1 + 1) _ rfl rfl 31 #[.int .u8 0, .bool false, .bool false, .slice none 0 0, .bool false, .bool false, .slice none 0 0] (KZ.out _ (by assumption)) infoRg rfl (by simp [Value.oneCell']) ?_)
      exact bodyPost_ret (results_st_tmp Tryd.results21 _ _ (w.heap.size + 1 + 1) 31 _ _ _ rfl rfl ((KZ.out _ (by assumption)).row _) Tryd.underlying31 rfl infoRg) rfl ⟨by rw [show X = false by rw [HX.out]; simp]; rfl, below_row (next_below HB0.out (by assumption)) hgt _⟩
    | true =>
      cases m2
      all_goals go_wp2_with first | (go_at_call 15; (first | (with_reducible refine (K1.out _ (by assumption)).mono ?_) | (with_reducible refine (K2.out _ (by assumption)).mono ?_)); rintro e w1 ⟨rfl, hb⟩; have hB := next_below (by assumption) hb; have x0_0 := X0.out _ hB 0 _ rfl; have x0_1 := X0.out _ hB 1 _ rfl; have x0_2 := X0.out _ hB 2 _ rfl; have x0_3 := X0.out _ hB 3 _ rfl; have x0_4 := X0.out _ hB 4 _ rfl; have x0_5 := X0.out _ hB 5 _ rfl; have x0_6 := X0.out _ hB 6 _ rfl; have x1_0 := X1.out _ hB 0 _ rfl; have x1_1 := X1.out _ hB 1 _ rfl; have x1_2 := X1.out _ hB 2 _ rfl; have x1_3 := X1.out _ hB 3 _ rfl; have x1_4 := X1.out _ hB 4 _ rfl; have x1_5 := X1.out _ hB 5 _ rfl; have x1_6 := X1.out _ hB 6 _ rfl; clear hb) | (refine wpList_store_row rfl 31 (.tmp 4) (.tmp 21) rfl (w.heap.size + 1 + 1) _ rfl rfl 31 #[.int .u8 0, .bool false, .bool false, .slice none 0 0, .bool false, .bool false, .slice none 0 0] (KZ.out _ (by assumption)) infoRg rfl (by simp [Value.oneCell']) ?_)
      all_goals exact bodyPost_ret (results_st_tmp Tryd.results21 _ _ (w.heap.size + 1 + 1) 31 _ _ _ rfl rfl ((KZ.out _ (by assumption)).row _) Tryd.underlying31 rfl infoRg) rfl ⟨by rw [show X = false by rw [HX.out]; simp [HO.out]]; rfl, below_row (next_below HB0.out (by assumption)) hgt _⟩
end Go.Proofs.YtjdmhbfddklhnaaDoor
