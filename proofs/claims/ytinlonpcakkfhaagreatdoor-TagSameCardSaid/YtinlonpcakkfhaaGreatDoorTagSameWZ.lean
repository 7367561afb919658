/-
  The walk of the law TagSame over contracts of the program's package tag. Conditions: those contracts.
-/
import Derived.Test.YtinlonpcakkfhaaGreatDoorM6
set_option linter.unusedVariables false
set_option linter.unusedSimpArgs false
open Go.Lib (hid)
open Go.Proofs.YtinlonpcakkfhaaGreatDoor (zA zB zC zD zE zF)
set_option maxRecDepth 100000
namespace Go.Proofs.YtinlonpcakkfhaaGreatDoor
open Go Go.Proofs Go.RowKit Sx _root_.Ord11 Go.Proofs.YtinlonpcakkfhaaGreatDoor.Ord11 _root_.Tag12 Sch
set_option maxHeartbeats 8000000 in
theorem tsame_walk {Q : World → Prop} (H : TagOk Q) (t t' : TG) (w : World) (S S' : Nat → Prop) (cs cs' : List Value) (hQ : Q w) (hs : TIn w S t cs) (hs' : TIn w S' t' cs') :
    Calls Tryz.prog 6 #[.agg cs.toArray, .agg cs'.toArray] w fun e w' => e = .returned (.bool true) ∧ Below w.heap.size w w' := by
  obtain ⟨ka, oa, i1a, p1a, i2a, p2a, A1a, n1a, c1a, A2a, n2a, c2a, A3a, n3a, c3a, A4a, n4a, c4a, rfl⟩ := hs.lets
  obtain ⟨kb, ob, i1b, p1b, i2b, p2b, A1b, n1b, c1b, A2b, n2b, c2b, A3b, n3b, c3b, A4b, n4b, c4b, rfl⟩ := hs'.lets
  obtain ⟨w0, hw0⟩ : ∃ w0, w0 = ((w.alloc (.cells #[.int .u8 ka, .slice A1a n1a c1a, .slice A2a n2a c2a, .int .u8 oa, .bool i1a, .bool p1a, .slice A3a n3a c3a, .bool i2a, .bool p2a, .slice A4a n4a c4a] 29)).alloc (.cells #[.int .u8 kb, .slice A1b n1b c1b, .slice A2b n2b c2b, .int .u8 ob, .bool i1b, .bool p1b, .slice A3b n3b c3b, .bool i2b, .bool p2b, .slice A4b n4b c4b] 29)) := ⟨_, rfl⟩
  have HB0 : Hid (Below w.heap.size w w0) := by
    show Below _ _ _
    rw [hw0]
    exact (below_new _ _).trans ((below_new _ _).mono (by simp))
  have B0 : Blk w0 w.heap.size 29 #[.int .u8 ka, .slice A1a n1a c1a, .slice A2a n2a c2a, .int .u8 oa, .bool i1a, .bool p1a, .slice A3a n3a c3a, .bool i2a, .bool p2a, .slice A4a n4a c4a] := by
    rw [hw0]
    exact (Blk.new w 29 #[.int .u8 ka, .slice A1a n1a c1a, .slice A2a n2a c2a, .int .u8 oa, .bool i1a, .bool p1a, .slice A3a n3a c3a, .bool i2a, .bool p2a, .slice A4a n4a c4a]).alloc _
  have KX0 : Hid (∀ W, Below w0.heap.size w0 W → Blk W w.heap.size 29 #[.int .u8 ka, .slice A1a n1a c1a, .slice A2a n2a c2a, .int .u8 oa, .bool i1a, .bool p1a, .slice A3a n3a c3a, .bool i2a, .bool p2a, .slice A4a n4a c4a]) := fun W hW => B0.old hW
  have B1 : Blk w0 (w.heap.size + 1) 29 #[.int .u8 kb, .slice A1b n1b c1b, .slice A2b n2b c2b, .int .u8 ob, .bool i1b, .bool p1b, .slice A3b n3b c3b, .bool i2b, .bool p2b, .slice A4b n4b c4b] := by
    rw [hw0]
    have h := Blk.new (w.alloc (.cells #[.int .u8 ka, .slice A1a n1a c1a, .slice A2a n2a c2a, .int .u8 oa, .bool i1a, .bool p1a, .slice A3a n3a c3a, .bool i2a, .bool p2a, .slice A4a n4a c4a] 29)) 29 #[.int .u8 kb, .slice A1b n1b c1b, .slice A2b n2b c2b, .int .u8 ob, .bool i1b, .bool p1b, .slice A3b n3b c3b, .bool i2b, .bool p2b, .slice A4b n4b c4b]
    simpa using h
  have KX1 : Hid (∀ W, Below w0.heap.size w0 W → Blk W (w.heap.size + 1) 29 #[.int .u8 kb, .slice A1b n1b c1b, .slice A2b n2b c2b, .int .u8 ob, .bool i1b, .bool p1b, .slice A3b n3b c3b, .bool i2b, .bool p2b, .slice A4b n4b c4b]) := fun W hW => B1.old hW
  have HR : Below w0.heap.size w0 w0 := Below.refl _ _
  have KA : Hid (∀ W, Below w0.heap.size w0 W → Calls Tryz.prog 9 #[] W fun e w' => e = .returned (.bool true) ∧ Below W.heap.size W w') := fun W hW => awake12_any H W (H.old hQ (next_below HB0.out hW))
  have KG1 : Hid (∀ W, Below w0.heap.size w0 W → Calls Tryz.prog 8 #[.agg #[.int .u8 ka, .slice A1a n1a c1a, .slice A2a n2a c2a, .int .u8 oa, .bool i1a, .bool p1a, .slice A3a n3a c3a, .bool i2a, .bool p2a, .slice A4a n4a c4a], .int .i64 0] W fun e w' => GreatT t W e w') := fun W hW => great12_any t W S _ 0 (hs.old (next_below HB0.out hW)) (by omega) (by omega)
  have KG2 : Hid (∀ W, Below w0.heap.size w0 W → Calls Tryz.prog 8 #[.agg #[.int .u8 kb, .slice A1b n1b c1b, .slice A2b n2b c2b, .int .u8 ob, .bool i1b, .bool p1b, .slice A3b n3b c3b, .bool i2b, .bool p2b, .slice A4b n4b c4b], .int .i64 0] W fun e w' => GreatT t' W e w') := fun W hW => great12_any t' W S' _ 0 (hs'.old (next_below HB0.out hW)) (by omega) (by omega)
  obtain ⟨s, hs0⟩ : ∃ s, s = sameT t t' := ⟨_, rfl⟩
  have KS : Hid (fineT t = true → fineT t' = true → ∀ W, Below w0.heap.size w0 W → (Calls Tryz.prog 21 #[.agg #[.int .u8 ka, .slice A1a n1a c1a, .slice A2a n2a c2a, .int .u8 oa, .bool i1a, .bool p1a, .slice A3a n3a c3a, .bool i2a, .bool p2a, .slice A4a n4a c4a], .agg #[.int .u8 kb, .slice A1b n1b c1b, .slice A2b n2b c2b, .int .u8 ob, .bool i1b, .bool p1b, .slice A3b n3b c3b, .bool i2b, .bool p2b, .slice A4b n4b c4b]] W fun e w' => e = .returned (.bool s) ∧ Below W.heap.size W w') ∧ (Calls Tryz.prog 16 #[.agg #[.int .u8 ka, .slice A1a n1a c1a, .slice A2a n2a c2a, .int .u8 oa, .bool i1a, .bool p1a, .slice A3a n3a c3a, .bool i2a, .bool p2a, .slice A4a n4a c4a], .agg #[.int .u8 kb, .slice A1b n1b c1b, .slice A2b n2b c2b, .int .u8 ob, .bool i1b, .bool p1b, .slice A3b n3b c3b, .bool i2b, .bool p2b, .slice A4b n4b c4b]] W fun e w' => e = .returned (.bool s) ∧ Below W.heap.size W w') ∧ (Calls Tryz.prog 21 #[.agg #[.int .u8 ka, .slice A1a n1a c1a, .slice A2a n2a c2a, .int .u8 oa, .bool i1a, .bool p1a, .slice A3a n3a c3a, .bool i2a, .bool p2a, .slice A4a n4a c4a], .agg #[.int .u8 ka, .slice A1a n1a c1a, .slice A2a n2a c2a, .int .u8 oa, .bool i1a, .bool p1a, .slice A3a n3a c3a, .bool i2a, .bool p2a, .slice A4a n4a c4a]] W fun e w' => e = .returned (.bool true) ∧ Below W.heap.size W w')) := by
    intro h1 h2 W hW
    have hW' := next_below HB0.out hW
    refine ⟨?_, ?_, ?_⟩
    · rw [hs0]; exact H.same t t' W S S' _ _ (H.old hQ hW') (hs.old hW') (hs'.old hW') h1 h2
    · rw [hs0]; exact refSame12_any t t' W S S' _ _ (hs.old hW') (hs'.old hW') h1 h2
    · have h := H.same t t W S S _ _ (H.old hQ hW') (hs.old hW') (hs.old hW') h1 h1
      rw [sameT_refl] at h; exact h
  clear hs0 hs hs'
  go_enter Tryz.func6, Tryz.ntmps6
  go_upto_region 1 with fail
  rw [← hw0]
  clear hw0
  have x_0 := B0.cell 0
  have x_1 := B0.cell 1
  have x_2 := B0.cell 2
  have x_3 := B0.cell 3
  have x_4 := B0.cell 4
  have x_5 := B0.cell 5
  have x_6 := B0.cell 6
  have x_7 := B0.cell 7
  have x_8 := B0.cell 8
  have x_9 := B0.cell 9
  have y_0 := B1.cell 0
  have y_1 := B1.cell 1
  have y_2 := B1.cell 2
  have y_3 := B1.cell 3
  have y_4 := B1.cell 4
  have y_5 := B1.cell 5
  have y_6 := B1.cell 6
  have y_7 := B1.cell 7
  have y_8 := B1.cell 8
  have y_9 := B1.cell 9
  go_cut [10] (fun p wx => ∃ b : Bool, p = .bool b ∧ Hid (b = false → fineT t = true ∧ fineT t' = true) ∧ Below w0.heap.size w0 wx)
  case first =>
    go_wp2_with first | (go_at_call 8; (with_reducible refine (KG1.out _ HR).mono ?_); rintro e w1 ⟨b, rfl, hf1, hb1⟩; have C1 := KX1.out _ hb1; have z_0 := C1.cell 0; have z_1 := C1.cell 1; have z_2 := C1.cell 2; have z_3 := C1.cell 3; have z_4 := C1.cell 4; have z_5 := C1.cell 5; have z_6 := C1.cell 6; have z_7 := C1.cell 7; have z_8 := C1.cell 8; have z_9 := C1.cell 9; have HF1 := hid hf1; clear hf1 C1; rcases b with _ | _) | (go_at_call 8; (with_reducible refine (KG2.out _ hb1).mono ?_); rintro e w2 ⟨b2, rfl, hf2, hb2⟩; have HF2 := hid hf2; clear hf2; rcases b2 with _ | _)
    all_goals go_meet
    · exact ⟨false, rfl, fun _ => ⟨HF1.out (by simp), HF2.out (by simp)⟩, next_below hb1 hb2⟩
    · exact ⟨true, rfl, (fun h => by cases h), next_below hb1 hb2⟩
    · exact ⟨true, rfl, (fun h => by cases h), hb1⟩
  case rest =>
    obtain ⟨b, rfl, hf, hb⟩ := hcut
    clear x_0 x_1 x_2 x_3 x_4 x_5 x_6 x_7 x_8 x_9
    clear y_0 y_1 y_2 y_3 y_4 y_5 y_6 y_7 y_8 y_9
    cases b with
    | true =>
      go_wp2_with (go_at_call 9; (refine (KA.out _ hb).mono ?_); rintro e wA ⟨rfl, hbA⟩)
      go_ret
      exact ⟨rfl, next_below HB0.out (next_below hb hbA)⟩
    | false =>
      obtain ⟨f1, f2⟩ := hf.out rfl
      have KS1 := hid (KS.out f1 f2)
      clear hf KS f1 f2
      go_upto_region 3 with fail
      try simp only [Act.put]
      refine wp_R [12, 13, 14, 15, 16, 17, 18, 19, 20, 21, 22, 23, 24, 25, 26] [Rk.val (.agg #[.int .u8 ka, .slice A1a n1a c1a, .slice A2a n2a c2a, .int .u8 oa, .bool i1a, .bool p1a, .slice A3a n3a c3a, .bool i2a, .bool p2a, .slice A4a n4a c4a]), Rk.val (.agg #[.int .u8 kb, .slice A1b n1b c1b, .slice A2b n2b c2b, .int .u8 ob, .bool i1b, .bool p1b, .slice A3b n3b c3b, .bool i2b, .bool p2b, .slice A4b n4b c4b]), Rk.val (.bool s), Rk.val (.agg #[.int .u8 ka, .slice A1a n1a c1a, .slice A2a n2a c2a, .int .u8 oa, .bool i1a, .bool p1a, .slice A3a n3a c3a, .bool i2a, .bool p2a, .slice A4a n4a c4a]), Rk.val (.agg #[.int .u8 kb, .slice A1b n1b c1b, .slice A2b n2b c2b, .int .u8 ob, .bool i1b, .bool p1b, .slice A3b n3b c3b, .bool i2b, .bool p2b, .slice A4b n4b c4b]), Rk.val (.bool s), Rk.val (.bool true), Rk.val (.bool true), Rk.val (.agg #[.int .u8 ka, .slice A1a n1a c1a, .slice A2a n2a c2a, .int .u8 oa, .bool i1a, .bool p1a, .slice A3a n3a c3a, .bool i2a, .bool p2a, .slice A4a n4a c4a]), Rk.val (.agg #[.int .u8 ka, .slice A1a n1a c1a, .slice A2a n2a c2a, .int .u8 oa, .bool i1a, .bool p1a, .slice A3a n3a c3a, .bool i2a, .bool p2a, .slice A4a n4a c4a]), Rk.val (.bool true), Rk.val (.bool true), Rk.val (.bool true), Rk.val (.bool true), Rk.val (.bool true)] rfl (by kernel_rfl) (by kernel_rfl) (by kernel_rfl) (by kernel_rfl) ?hg _ (by rfl) ?hf
      case hg =>
        refine gr_val rfl (by kernel_rfl) (fun a V H K Q hK => op_quiet (quiet_load_row 29 (.tmp 2) w.heap.size (H.old 2 (by kernel_rfl) (by kernel_rfl)) 29 #[.int .u8 ka, .slice A1a n1a c1a, .slice A2a n2a c2a, .int .u8 oa, .bool i1a, .bool p1a, .slice A3a n3a c3a, .bool i2a, .bool p2a, .slice A4a n4a c4a] _ (KX0.out _ (next_below hb H.frame)) Tryz.underlying29 rfl (by kernel_rfl) (by kernel_rfl)) hK) ?_
        refine gr_val rfl (by kernel_rfl) (fun a V H K Q hK => op_quiet (quiet_load_row 29 (.tmp 3) (w.heap.size + 1) (H.old 3 (by kernel_rfl) (by kernel_rfl)) 29 #[.int .u8 kb, .slice A1b n1b c1b, .slice A2b n2b c2b, .int .u8 ob, .bool i1b, .bool p1b, .slice A3b n3b c3b, .bool i2b, .bool p2b, .slice A4b n4b c4b] _ (KX1.out _ (next_below hb H.frame)) Tryz.underlying29 rfl (by kernel_rfl) (by kernel_rfl)) hK) ?_
        refine gr_val rfl (by kernel_rfl) (fun a V H K Q hK => op_callK #[.tmp 12, .tmp 13] #[.agg #[.int .u8 ka, .slice A1a n1a c1a, .slice A2a n2a c2a, .int .u8 oa, .bool i1a, .bool p1a, .slice A3a n3a c3a, .bool i2a, .bool p2a, .slice A4a n4a c4a], .agg #[.int .u8 kb, .slice A1b n1b c1b, .slice A2b n2b c2b, .int .u8 ob, .bool i1b, .bool p1b, .slice A3b n3b c3b, .bool i2b, .bool p2b, .slice A4b n4b c4b]] (by kernel_rfl) (by kernel_rfl) (by kernel_rfl) (map2 (H.rel 0 12 (by kernel_rfl) (by kernel_rfl) rfl) (H.rel 1 13 (by kernel_rfl) (by kernel_rfl) rfl)) (KS1.out _ (next_below hb H.frame)).1 (by kernel_rfl) hK) ?_
        refine gr_val rfl (by kernel_rfl) (fun a V H K Q hK => op_quiet (quiet_load_row 29 (.tmp 2) w.heap.size (H.old 2 (by kernel_rfl) (by kernel_rfl)) 29 #[.int .u8 ka, .slice A1a n1a c1a, .slice A2a n2a c2a, .int .u8 oa, .bool i1a, .bool p1a, .slice A3a n3a c3a, .bool i2a, .bool p2a, .slice A4a n4a c4a] _ (KX0.out _ (next_below hb H.frame)) Tryz.underlying29 rfl (by kernel_rfl) (by kernel_rfl)) hK) ?_
        refine gr_val rfl (by kernel_rfl) (fun a V H K Q hK => op_quiet (quiet_load_row 29 (.tmp 3) (w.heap.size + 1) (H.old 3 (by kernel_rfl) (by kernel_rfl)) 29 #[.int .u8 kb, .slice A1b n1b c1b, .slice A2b n2b c2b, .int .u8 ob, .bool i1b, .bool p1b, .slice A3b n3b c3b, .bool i2b, .bool p2b, .slice A4b n4b c4b] _ (KX1.out _ (next_below hb H.frame)) Tryz.underlying29 rfl (by kernel_rfl) (by kernel_rfl)) hK) ?_
        refine gr_val rfl (by kernel_rfl) (fun a V H K Q hK => op_callK #[.tmp 15, .tmp 16] #[.agg #[.int .u8 ka, .slice A1a n1a c1a, .slice A2a n2a c2a, .int .u8 oa, .bool i1a, .bool p1a, .slice A3a n3a c3a, .bool i2a, .bool p2a, .slice A4a n4a c4a], .agg #[.int .u8 kb, .slice A1b n1b c1b, .slice A2b n2b c2b, .int .u8 ob, .bool i1b, .bool p1b, .slice A3b n3b c3b, .bool i2b, .bool p2b, .slice A4b n4b c4b]] (by kernel_rfl) (by kernel_rfl) (by kernel_rfl) (map2 (H.rel 3 15 (by kernel_rfl) (by kernel_rfl) rfl) (H.rel 4 16 (by kernel_rfl) (by kernel_rfl) rfl)) (KS1.out _ (next_below hb H.frame)).2.1 (by kernel_rfl) hK) ?_
        refine gr_val rfl (by kernel_rfl) (fun a V H K Q hK => op_quiet (quiet_eqlB (.tmp 14) (.tmp 17) s s true 4 4 Tryz.underlying4 (by simp) (H.rel 2 14 (by kernel_rfl) (by kernel_rfl) rfl) (H.rel 5 17 (by kernel_rfl) (by kernel_rfl) rfl) (by kernel_rfl)) hK) ?_
        refine gr_val rfl (by kernel_rfl) (fun a V H K Q hK => op_quiet (quiet_move (.tmp 18) (H.rel 6 18 (by kernel_rfl) (by kernel_rfl) rfl) (.inl (by kernel_rfl))) hK) ?_
        refine gr_onV (j := 7) (d := 19) (want := true) (u := .bool true) rfl (by kernel_rfl) (by kernel_rfl) (fun a V H => (H.rel 7 19 (by kernel_rfl) (by kernel_rfl) rfl)) (by kernel_rfl) (fun a V H K Q hK => op_quiet (quiet_load_row 29 (.tmp 2) w.heap.size (H.old 2 (by kernel_rfl) (by kernel_rfl)) 29 #[.int .u8 ka, .slice A1a n1a c1a, .slice A2a n2a c2a, .int .u8 oa, .bool i1a, .bool p1a, .slice A3a n3a c3a, .bool i2a, .bool p2a, .slice A4a n4a c4a] _ (KX0.out _ (next_below hb H.frame)) Tryz.underlying29 rfl (by kernel_rfl) (by kernel_rfl)) hK) ?_
        refine gr_onV (j := 7) (d := 19) (want := true) (u := .bool true) rfl (by kernel_rfl) (by kernel_rfl) (fun a V H => (H.rel 7 19 (by kernel_rfl) (by kernel_rfl) rfl)) (by kernel_rfl) (fun a V H K Q hK => op_quiet (quiet_load_row 29 (.tmp 2) w.heap.size (H.old 2 (by kernel_rfl) (by kernel_rfl)) 29 #[.int .u8 ka, .slice A1a n1a c1a, .slice A2a n2a c2a, .int .u8 oa, .bool i1a, .bool p1a, .slice A3a n3a c3a, .bool i2a, .bool p2a, .slice A4a n4a c4a] _ (KX0.out _ (next_below hb H.frame)) Tryz.underlying29 rfl (by kernel_rfl) (by kernel_rfl)) hK) ?_
        refine gr_onV (j := 7) (d := 19) (want := true) (u := .bool true) rfl (by kernel_rfl) (by kernel_rfl) (fun a V H => (H.rel 7 19 (by kernel_rfl) (by kernel_rfl) rfl)) (by kernel_rfl) (fun a V H K Q hK => op_callK #[.tmp 20, .tmp 21] #[.agg #[.int .u8 ka, .slice A1a n1a c1a, .slice A2a n2a c2a, .int .u8 oa, .bool i1a, .bool p1a, .slice A3a n3a c3a, .bool i2a, .bool p2a, .slice A4a n4a c4a], .agg #[.int .u8 ka, .slice A1a n1a c1a, .slice A2a n2a c2a, .int .u8 oa, .bool i1a, .bool p1a, .slice A3a n3a c3a, .bool i2a, .bool p2a, .slice A4a n4a c4a]] (by kernel_rfl) (by kernel_rfl) (by kernel_rfl) (map2 (H.rel 8 20 (by kernel_rfl) (by kernel_rfl) rfl) (H.rel 9 21 (by kernel_rfl) (by kernel_rfl) rfl)) (KS1.out _ (next_below hb H.frame)).2.2 (by kernel_rfl) hK) ?_
        refine gr_val rfl (by kernel_rfl) (fun a V H K Q hK => op_quiet (quiet_pickT (.tmp 19) (.tmp 22) (.const (.bool false)) (H.rel 7 19 (by kernel_rfl) (by kernel_rfl) rfl) (H.rel 10 22 (by kernel_rfl) (by kernel_rfl) rfl) (by kernel_rfl)) hK) ?_
        refine gr_val rfl (by kernel_rfl) (fun a V H K Q hK => op_quiet (quiet_move (.tmp 23) (H.rel 11 23 (by kernel_rfl) (by kernel_rfl) rfl) (.inl (by kernel_rfl))) hK) ?_
        refine gr_onV (j := 12) (d := 24) (want := true) (u := .bool true) rfl (by kernel_rfl) (by kernel_rfl) (fun a V H => (H.rel 12 24 (by kernel_rfl) (by kernel_rfl) rfl)) (by kernel_rfl) (fun a V H K Q hK => op_callK #[] #[] (by kernel_rfl) (by kernel_rfl) (by kernel_rfl) map0 (KA.out _ (next_below hb H.frame)) (by kernel_rfl) hK) ?_
        refine gr_val rfl (by kernel_rfl) (fun a V H K Q hK => op_quiet (quiet_pickT (.tmp 24) (.tmp 25) (.const (.bool false)) (H.rel 12 24 (by kernel_rfl) (by kernel_rfl) rfl) (H.rel 13 25 (by kernel_rfl) (by kernel_rfl) rfl) (by kernel_rfl)) hK) ?_
        exact gr_nil
      case hf =>
        intro x V hF
        have ev0 : x 0 = .agg #[.int .u8 ka, .slice A1a n1a c1a, .slice A2a n2a c2a, .int .u8 oa, .bool i1a, .bool p1a, .slice A3a n3a c3a, .bool i2a, .bool p2a, .slice A4a n4a c4a] := hF.rel 0 _ rfl
        have ev1 : x 1 = .agg #[.int .u8 kb, .slice A1b n1b c1b, .slice A2b n2b c2b, .int .u8 ob, .bool i1b, .bool p1b, .slice A3b n3b c3b, .bool i2b, .bool p2b, .slice A4b n4b c4b] := hF.rel 1 _ rfl
        have ev2 : x 2 = .bool s := hF.rel 2 _ rfl
        have ev3 : x 3 = .agg #[.int .u8 ka, .slice A1a n1a c1a, .slice A2a n2a c2a, .int .u8 oa, .bool i1a, .bool p1a, .slice A3a n3a c3a, .bool i2a, .bool p2a, .slice A4a n4a c4a] := hF.rel 3 _ rfl
        have ev4 : x 4 = .agg #[.int .u8 kb, .slice A1b n1b c1b, .slice A2b n2b c2b, .int .u8 ob, .bool i1b, .bool p1b, .slice A3b n3b c3b, .bool i2b, .bool p2b, .slice A4b n4b c4b] := hF.rel 4 _ rfl
        have ev5 : x 5 = .bool s := hF.rel 5 _ rfl
        have ev6 : x 6 = .bool true := hF.rel 6 _ rfl
        have ev7 : x 7 = .bool true := hF.rel 7 _ rfl
        have ev8 : x 8 = .agg #[.int .u8 ka, .slice A1a n1a c1a, .slice A2a n2a c2a, .int .u8 oa, .bool i1a, .bool p1a, .slice A3a n3a c3a, .bool i2a, .bool p2a, .slice A4a n4a c4a] := hF.rel 8 _ rfl
        have ev9 : x 9 = .agg #[.int .u8 ka, .slice A1a n1a c1a, .slice A2a n2a c2a, .int .u8 oa, .bool i1a, .bool p1a, .slice A3a n3a c3a, .bool i2a, .bool p2a, .slice A4a n4a c4a] := hF.rel 9 _ rfl
        have ev10 : x 10 = .bool true := hF.rel 10 _ rfl
        have ev11 : x 11 = .bool true := hF.rel 11 _ rfl
        have ev12 : x 12 = .bool true := hF.rel 12 _ rfl
        have ev13 : x 13 = .bool true := hF.rel 13 _ rfl
        have ev14 : x 14 = .bool true := hF.rel 14 _ rfl
        have hbf := hF.frame
        clear hF
        simp only [Sch.finL, zA, zB, zC, ev0, ev1, ev2, ev3, ev4, ev5, ev6, ev7, ev8, ev9, ev10, ev11, ev12, ev13, ev14]
        clear ev0 ev1 ev2 ev3 ev4 ev5 ev6 ev7 ev8 ev9 ev10 ev11 ev12 ev13 ev14
        go_wp2_with fail
        go_ret
        exact ⟨rfl, next_below HB0.out (next_below hb hbf)⟩
end Go.Proofs.YtinlonpcakkfhaaGreatDoor
