/-
  The walk of the law TagWrites over contracts of the program's package tag. Conditions: those contracts; a value of at most 2^40 nodes and bytes.
-/
import Derived.Test.YtinlonpcakkfhaaGreatDoorM6
set_option linter.unusedVariables false
set_option linter.unusedSimpArgs false
open Go.Lib (hid)
open Go.Proofs.YtinlonpcakkfhaaGreatDoor (zA zB zC zD zE zF)
set_option maxRecDepth 100000
namespace Go.Proofs.YtinlonpcakkfhaaGreatDoor
open Go Go.Proofs Go.RowKit Sx _root_.Ord11 Go.Proofs.YtinlonpcakkfhaaGreatDoor.Ord11 _root_.Tag12 Sch
theorem sin_zero {w : World} {S : Nat → Prop} : SIn w S zeroX [.bool false, .bool false, .slice none 0 0, .slice none 0 0, .slice none 0 0] :=
  .mk (xs := []) RIn.none_ ⟨Nat.le_refl _, by omega⟩ RIn.none_ ⟨Nat.le_refl _, by omega⟩ RIn.none_ ⟨Nat.le_refl _, by omega⟩ rfl (fun i t h => by simp at h)
set_option maxHeartbeats 8000000 in
theorem twrites_walk {Q : World → Prop} (H : TagOk Q) (t : TG) (w : World) (S : Nat → Prop) (cs : List Value) (hQ : Q w) (hs : TIn w S t cs) (hz : SmallX (valueT t)) :
    Calls Tryz.prog 3 #[.agg cs.toArray] w fun e w' => e = .returned (.bool true) ∧ Below w.heap.size w w' := by
  obtain ⟨ka, oa, i1a, p1a, i2a, p2a, A1a, n1a, c1a, A2a, n2a, c2a, A3a, n3a, c3a, A4a, n4a, c4a, rfl⟩ := hs.lets
  obtain ⟨w0, hw0⟩ : ∃ w0, w0 = (w.alloc (.cells #[.int .u8 ka, .slice A1a n1a c1a, .slice A2a n2a c2a, .int .u8 oa, .bool i1a, .bool p1a, .slice A3a n3a c3a, .bool i2a, .bool p2a, .slice A4a n4a c4a] 29)) := ⟨_, rfl⟩
  have HB0 : Hid (Below w.heap.size w w0) := by
    show Below _ _ _
    rw [hw0]
    exact below_new _ _
  have B0 : Blk w0 w.heap.size 29 #[.int .u8 ka, .slice A1a n1a c1a, .slice A2a n2a c2a, .int .u8 oa, .bool i1a, .bool p1a, .slice A3a n3a c3a, .bool i2a, .bool p2a, .slice A4a n4a c4a] := by
    rw [hw0]
    exact Blk.new w 29 #[.int .u8 ka, .slice A1a n1a c1a, .slice A2a n2a c2a, .int .u8 oa, .bool i1a, .bool p1a, .slice A3a n3a c3a, .bool i2a, .bool p2a, .slice A4a n4a c4a]
  have KX0 : Hid (∀ W, Below w0.heap.size w0 W → Blk W w.heap.size 29 #[.int .u8 ka, .slice A1a n1a c1a, .slice A2a n2a c2a, .int .u8 oa, .bool i1a, .bool p1a, .slice A3a n3a c3a, .bool i2a, .bool p2a, .slice A4a n4a c4a]) := fun W hW => B0.old hW
  have HR : Below w0.heap.size w0 w0 := Below.refl _ _
  have KA : Hid (∀ W, Below w0.heap.size w0 W → Calls Tryz.prog 9 #[] W fun e w' => e = .returned (.bool true) ∧ Below W.heap.size W w') := fun W hW => awake12_any H W (H.old hQ (next_below HB0.out hW))
  have KG1 : Hid (∀ W, Below w0.heap.size w0 W → Calls Tryz.prog 8 #[.agg #[.int .u8 ka, .slice A1a n1a c1a, .slice A2a n2a c2a, .int .u8 oa, .bool i1a, .bool p1a, .slice A3a n3a c3a, .bool i2a, .bool p2a, .slice A4a n4a c4a], .int .i64 0] W fun e w' => GreatT t W e w') := fun W hW => great12_any t W S _ 0 (hs.old (next_below HB0.out hW)) (by omega) (by omega)
  have HST : Hid (∀ W, Below w0.heap.size w0 W → TIn W S t [.int .u8 ka, .slice A1a n1a c1a, .slice A2a n2a c2a, .int .u8 oa, .bool i1a, .bool p1a, .slice A3a n3a c3a, .bool i2a, .bool p2a, .slice A4a n4a c4a] ∧ Q W) := fun W hW => ⟨hs.old (next_below HB0.out hW), H.old hQ (next_below HB0.out hW)⟩
  have HO := hid H
  have HZ := hid hz
  clear hs hz
  go_enter Tryz.func3, Tryz.ntmps3
  go_upto_region 1 with fail
  rw [← hw0]
  clear hw0
  have x_0 := B0.cell 0
  have x_1 := B0.cell 1
  have x_2 := B0.cell 2
  have x_3 := B0.cell 3
  have x_4 := B0.cell 4
  have x_5 := B0.cell 5
  have x_6 := B0.cell 6
  have x_7 := B0.cell 7
  have x_8 := B0.cell 8
  have x_9 := B0.cell 9
  go_cut [8] (fun p wx => ∃ b : Bool, p = .bool b ∧ Hid (b = false → fineT t = true) ∧ Below w0.heap.size w0 wx)
  case first =>
    go_wp2_with (go_at_call 8; (refine (KG1.out _ HR).mono ?_); rintro e w1 ⟨b, rfl, hf1, hb1⟩)
    all_goals go_meet
    all_goals exact ⟨_, rfl, hf1, hb1⟩
  case rest =>
    obtain ⟨b, rfl, hf, hb⟩ := hcut
    clear x_0 x_1 x_2 x_3 x_4 x_5 x_6 x_7 x_8 x_9
    have BX := KX0.out _ hb
    have x_0 := BX.cell 0
    have x_1 := BX.cell 1
    have x_2 := BX.cell 2
    have x_3 := BX.cell 3
    have x_4 := BX.cell 4
    have x_5 := BX.cell 5
    have x_6 := BX.cell 6
    have x_7 := BX.cell 7
    have x_8 := BX.cell 8
    have x_9 := BX.cell 9
    cases b with
    | true =>
      go_wp2_with (go_at_call 9; (refine (KA.out _ hb).mono ?_); rintro e wA ⟨rfl, hbA⟩)
      go_ret
      exact ⟨rfl, next_below HB0.out (next_below hb hbA)⟩
    | false =>
      have HSM : Hid (SmallT t) := ⟨hf.out rfl, HZ.out⟩
      clear hf
      obtain ⟨m, hm⟩ : ∃ m, m = mayT t := ⟨_, rfl⟩
      obtain ⟨pv, hpv⟩ : ∃ x, x = (putR t).1 := ⟨_, rfl⟩
      obtain ⟨pe, hpe⟩ : ∃ x, x = (putR t).2 := ⟨_, rfl⟩
      have HPR : Hid ((pv, pe) = if m = true then (valueT t, 0) else (zeroX, 13)) := by show _ = _; rw [hpv, hpe, hm]; rfl
      have HM := hid hm
      have KP : Hid (∀ W, Below w0.heap.size w0 W → Calls Tryz.prog 10 #[.agg #[.int .u8 ka, .slice A1a n1a c1a, .slice A2a n2a c2a, .int .u8 oa, .bool i1a, .bool p1a, .slice A3a n3a c3a, .bool i2a, .bool p2a, .slice A4a n4a c4a]] W fun e w' => ∃ v0 v1 v2 v3 v4, e = .returned (.tuple #[.agg #[v0, v1, v2, v3, v4], .int .i64 pe]) ∧ SIn w' (fun b => S b ∨ W.heap.size ≤ b) pv [v0, v1, v2, v3, v4] ∧ Below W.heap.size W w') := fun W hW => by rw [hpv, hpe]; exact HO.out.put t W S _ (HST.out W hW).2 (HST.out W hW).1 HSM.out
      have KM1 : Hid (∀ W, Below w0.heap.size w0 W → Calls Tryz.prog 11 #[.agg #[.int .u8 ka, .slice A1a n1a c1a, .slice A2a n2a c2a, .int .u8 oa, .bool i1a, .bool p1a, .slice A3a n3a c3a, .bool i2a, .bool p2a, .slice A4a n4a c4a]] W fun e w' => e = .returned (.bool m) ∧ Below W.heap.size W w') := fun W hW => by rw [hm]; exact refTagMay_any t W S _ (HST.out W hW).1 HSM.out.1 HSM.out.2.1 HSM.out.2.2
      have KM2 : Hid (∀ W, Below w0.heap.size w0 W → Calls Tryz.prog 12 #[.agg #[.int .u8 ka, .slice A1a n1a c1a, .slice A2a n2a c2a, .int .u8 oa, .bool i1a, .bool p1a, .slice A3a n3a c3a, .bool i2a, .bool p2a, .slice A4a n4a c4a]] W fun e w' => e = .returned (.bool m) ∧ Below W.heap.size W w') := fun W hW => by rw [hm]; exact HO.out.may t W S _ (HST.out W hW).2 (HST.out W hW).1 HSM.out
      clear hm hpv hpe
      go_upto_region 4 with (go_at_call 10; (refine (KP.out _ hb).mono ?_); rintro e w2 ⟨v0, v1, v2, v3, v4, rfl, hinv, hb2⟩; obtain ⟨lv, hv, A1v, n1v, c1v, A2v, n2v, c2v, A3v, n3v, c3v, ec⟩ := hinv.lets; simp only [List.cons.injEq, and_true] at ec; obtain ⟨rfl, rfl, rfl, rfl, rfl⟩ := ec)
      have hbn := below_new w2 (.cells #[.bool lv, .bool hv, .slice A1v n1v c1v, .slice A2v n2v c2v, .slice A3v n3v c3v] 34)
      have hB3 := next_below (next_below hb hb2) hbn
      have Bv : Blk (w2.alloc (.cells #[.bool lv, .bool hv, .slice A1v n1v c1v, .slice A2v n2v c2v, .slice A3v n3v c3v] 34)) w2.heap.size 34 #[.bool lv, .bool hv, .slice A1v n1v c1v, .slice A2v n2v c2v, .slice A3v n3v c3v] := Blk.new _ _ _
      have HIv := hid (hinv.old hbn)
      have hSv := next_below hb2 hbn
      clear hinv hb2 hbn
      generalize hgv : w2.heap.size = gv at Bv ⊢
      generalize w2.alloc (.cells #[.bool lv, .bool hv, .slice A1v n1v c1v, .slice A2v n2v c2v, .slice A3v n3v c3v] 34) = W3 at *
      clear hgv
      have Kv : Hid (∀ W, Below W3.heap.size W3 W → Blk W gv 34 #[.bool lv, .bool hv, .slice A1v n1v c1v, .slice A2v n2v c2v, .slice A3v n3v c3v]) := fun W hW => Bv.old hW
      clear x_0 x_1 x_2 x_3 x_4 x_5 x_6 x_7 x_8 x_9
      have BX3 := KX0.out _ hB3
      have x_0 := BX3.cell 0
      have x_1 := BX3.cell 1
      have x_2 := BX3.cell 2
      have x_3 := BX3.cell 3
      have x_4 := BX3.cell 4
      have x_5 := BX3.cell 5
      have x_6 := BX3.cell 6
      have x_7 := BX3.cell 7
      have x_8 := BX3.cell 8
      have x_9 := BX3.cell 9
      cases m with
      | false =>
        obtain ⟨rfl, rfl⟩ : pv = zeroX ∧ pe = 13 := by have h := HPR.out; rw [if_neg (by simp)] at h; injection h with h1 h2; exact ⟨h1, h2⟩
        go_upto_region 5 with (go_at_call 11; (refine (KM1.out _ hB3).mono ?_); rintro e w4 ⟨rfl, hb4⟩)
        have hB4 := next_below hB3 hb4
        have hS4 := hb4
        have Kv4 : Hid (∀ W, Below w4.heap.size w4 W → Blk W gv 34 #[.bool lv, .bool hv, .slice A1v n1v c1v, .slice A2v n2v c2v, .slice A3v n3v c3v]) := fun W hW => Kv.out W (next_below hS4 hW)
        have KX4 : Hid (∀ W, Below w4.heap.size w4 W → Blk W w.heap.size 29 #[.int .u8 ka, .slice A1a n1a c1a, .slice A2a n2a c2a, .int .u8 oa, .bool i1a, .bool p1a, .slice A3a n3a c3a, .bool i2a, .bool p2a, .slice A4a n4a c4a]) := fun W hW => KX0.out W (next_below hB4 hW)
        have KM4 : Hid (∀ W, Below w4.heap.size w4 W → Calls Tryz.prog 12 #[.agg #[.int .u8 ka, .slice A1a n1a c1a, .slice A2a n2a c2a, .int .u8 oa, .bool i1a, .bool p1a, .slice A3a n3a c3a, .bool i2a, .bool p2a, .slice A4a n4a c4a]] W fun e w' => e = .returned (.bool false) ∧ Below W.heap.size W w') := fun W hW => KM2.out W (next_below hB4 hW)
        have KS4 : Hid (∀ W, Below w4.heap.size w4 W → Calls Tryz.prog 13 #[.agg #[.bool lv, .bool hv, .slice A1v n1v c1v, .slice A2v n2v c2v, .slice A3v n3v c3v], .agg #[.bool false, .bool false, .slice none 0 0, .slice none 0 0, .slice none 0 0]] W fun e w' => e = .returned (.bool true) ∧ Below W.heap.size W w') := fun W hW => by
          have h := refSame_any zeroX zeroX W _ (fun _ => True) _ _ (HIv.out.old (next_below hS4 hW)) sin_zero
          rw [same_refl] at h; exact h
        have KA4 : Hid (∀ W, Below w4.heap.size w4 W → Calls Tryz.prog 9 #[] W fun e w' => e = .returned (.bool true) ∧ Below W.heap.size W w') := fun W hW => KA.out W (next_below hB4 hW)
        try simp only [Act.put]
        refine wp_R [18, 19, 20, 21, 22, 23, 24, 25, 26, 27, 28, 29, 30, 31, 32] [Rk.val (.agg #[.int .u8 ka, .slice A1a n1a c1a, .slice A2a n2a c2a, .int .u8 oa, .bool i1a, .bool p1a, .slice A3a n3a c3a, .bool i2a, .bool p2a, .slice A4a n4a c4a]), Rk.val (.bool false), Rk.val (.bool true), Rk.val (.bool true), Rk.val (.int .i64 13), Rk.val (.bool true), Rk.val (.bool true), Rk.val (.bool true), Rk.val (.agg #[.bool lv, .bool hv, .slice A1v n1v c1v, .slice A2v n2v c2v, .slice A3v n3v c3v]), Rk.val (.agg #[.bool false, .bool false, .slice none 0 0, .slice none 0 0, .slice none 0 0]), Rk.val (.bool true), Rk.val (.bool true), Rk.val (.bool true), Rk.val (.bool true), Rk.val (.bool true)] rfl (by kernel_rfl) (by kernel_rfl) (by kernel_rfl) (by kernel_rfl) ?hgn _ (by rfl) ?hfn
        case hgn =>
          refine gr_val rfl (by kernel_rfl) (fun a V H K Q hK => op_quiet (quiet_load_row 29 (.tmp 1) w.heap.size (H.old 1 (by kernel_rfl) (by kernel_rfl)) 29 #[.int .u8 ka, .slice A1a n1a c1a, .slice A2a n2a c2a, .int .u8 oa, .bool i1a, .bool p1a, .slice A3a n3a c3a, .bool i2a, .bool p2a, .slice A4a n4a c4a] _ (KX4.out V H.frame) Tryz.underlying29 rfl (by kernel_rfl) (by kernel_rfl)) hK) ?_
          refine gr_val rfl (by kernel_rfl) (fun a V H K Q hK => op_callK #[.tmp 18] #[.agg #[.int .u8 ka, .slice A1a n1a c1a, .slice A2a n2a c2a, .int .u8 oa, .bool i1a, .bool p1a, .slice A3a n3a c3a, .bool i2a, .bool p2a, .slice A4a n4a c4a]] (by kernel_rfl) (by kernel_rfl) (by kernel_rfl) (map1 (H.rel 0 18 (by kernel_rfl) (by kernel_rfl) rfl)) (KM4.out V H.frame) (by kernel_rfl) hK) ?_
          refine gr_val rfl (by kernel_rfl) (fun a V H K Q hK => op_quiet (quiet_not 4 (.tmp 19) (H.rel 1 19 (by kernel_rfl) (by kernel_rfl) rfl) (by kernel_rfl)) hK) ?_
          refine gr_val rfl (by kernel_rfl) (fun a V H K Q hK => op_quiet (quiet_move (.tmp 20) (H.rel 2 20 (by kernel_rfl) (by kernel_rfl) rfl) (.inl (by kernel_rfl))) hK) ?_
          refine gr_onV (j := 3) (d := 21) (want := true) (u := .bool true) rfl (by kernel_rfl) (by kernel_rfl) (fun a V H => (H.rel 3 21 (by kernel_rfl) (by kernel_rfl) rfl)) (by kernel_rfl) (fun a V H K Q hK => op_quiet (quiet_move (.tmp 4) (H.old 4 (by kernel_rfl) (by kernel_rfl)) (.inl (by kernel_rfl))) hK) ?_
          refine gr_onV (j := 3) (d := 21) (want := true) (u := .bool true) rfl (by kernel_rfl) (by kernel_rfl) (fun a V H => (H.rel 3 21 (by kernel_rfl) (by kernel_rfl) rfl)) (by kernel_rfl) (fun a V H K Q hK => op_quiet (quiet_eqlI (.tmp 22) (.const (.int .i64 13)) 13 13 true 35 35 Tryz.underlying35 rfl (H.rel 4 22 (by kernel_rfl) (by kernel_rfl) rfl) (show a.eval (.const (.int .i64 13)) = .int .i64 13 from rfl) (by kernel_rfl)) hK) ?_
          refine gr_val rfl (by kernel_rfl) (fun a V H K Q hK => op_quiet (quiet_pickT (.tmp 21) (.tmp 23) (.const (.bool false)) (H.rel 3 21 (by kernel_rfl) (by kernel_rfl) rfl) (H.rel 5 23 (by kernel_rfl) (by kernel_rfl) rfl) (by kernel_rfl)) hK) ?_
          refine gr_val rfl (by kernel_rfl) (fun a V H K Q hK => op_quiet (quiet_move (.tmp 24) (H.rel 6 24 (by kernel_rfl) (by kernel_rfl) rfl) (.inl (by kernel_rfl))) hK) ?_
          refine gr_onV (j := 7) (d := 25) (want := true) (u := .bool true) rfl (by kernel_rfl) (by kernel_rfl) (fun a V H => (H.rel 7 25 (by kernel_rfl) (by kernel_rfl) rfl)) (by kernel_rfl) (fun a V H K Q hK => op_quiet (quiet_load_row 34 (.tmp 3) gv (H.old 3 (by kernel_rfl) (by kernel_rfl)) 34 #[.bool lv, .bool hv, .slice A1v n1v c1v, .slice A2v n2v c2v, .slice A3v n3v c3v] _ (Kv4.out V H.frame) Tryz.underlying34 rfl (by kernel_rfl) (by kernel_rfl)) hK) ?_
          refine gr_onV (j := 7) (d := 25) (want := true) (u := .bool true) rfl (by kernel_rfl) (by kernel_rfl) (fun a V H => (H.rel 7 25 (by kernel_rfl) (by kernel_rfl) rfl)) (by kernel_rfl) (fun a V H K Q hK => op_quiet (quiet_bld 34 _ _ bld0 #[.bool false, .bool false, .slice none 0 0, .slice none 0 0, .slice none 0 0] (by kernel_rfl) (by kernel_rfl)) hK) ?_
          refine gr_onV (j := 7) (d := 25) (want := true) (u := .bool true) rfl (by kernel_rfl) (by kernel_rfl) (fun a V H => (H.rel 7 25 (by kernel_rfl) (by kernel_rfl) rfl)) (by kernel_rfl) (fun a V H K Q hK => op_callK #[.tmp 26, .tmp 27] #[.agg #[.bool lv, .bool hv, .slice A1v n1v c1v, .slice A2v n2v c2v, .slice A3v n3v c3v], .agg #[.bool false, .bool false, .slice none 0 0, .slice none 0 0, .slice none 0 0]] (by kernel_rfl) (by kernel_rfl) (by kernel_rfl) (map2 (H.rel 8 26 (by kernel_rfl) (by kernel_rfl) rfl) (H.rel 9 27 (by kernel_rfl) (by kernel_rfl) rfl)) (KS4.out V H.frame) (by kernel_rfl) hK) ?_
          refine gr_val rfl (by kernel_rfl) (fun a V H K Q hK => op_quiet (quiet_pickT (.tmp 25) (.tmp 28) (.const (.bool false)) (H.rel 7 25 (by kernel_rfl) (by kernel_rfl) rfl) (H.rel 10 28 (by kernel_rfl) (by kernel_rfl) rfl) (by kernel_rfl)) hK) ?_
          refine gr_val rfl (by kernel_rfl) (fun a V H K Q hK => op_quiet (quiet_move (.tmp 29) (H.rel 11 29 (by kernel_rfl) (by kernel_rfl) rfl) (.inl (by kernel_rfl))) hK) ?_
          refine gr_onV (j := 12) (d := 30) (want := true) (u := .bool true) rfl (by kernel_rfl) (by kernel_rfl) (fun a V H => (H.rel 12 30 (by kernel_rfl) (by kernel_rfl) rfl)) (by kernel_rfl) (fun a V H K Q hK => op_callK #[] #[] (by kernel_rfl) (by kernel_rfl) (by kernel_rfl) map0 (KA4.out V H.frame) (by kernel_rfl) hK) ?_
          refine gr_val rfl (by kernel_rfl) (fun a V H K Q hK => op_quiet (quiet_pickT (.tmp 30) (.tmp 31) (.const (.bool false)) (H.rel 12 30 (by kernel_rfl) (by kernel_rfl) rfl) (H.rel 13 31 (by kernel_rfl) (by kernel_rfl) rfl) (by kernel_rfl)) hK) ?_
          exact gr_nil
        case hfn =>
          intro x V hF
          have ev0 : x 0 = .agg #[.int .u8 ka, .slice A1a n1a c1a, .slice A2a n2a c2a, .int .u8 oa, .bool i1a, .bool p1a, .slice A3a n3a c3a, .bool i2a, .bool p2a, .slice A4a n4a c4a] := hF.rel 0 _ rfl
          have ev1 : x 1 = .bool false := hF.rel 1 _ rfl
          have ev2 : x 2 = .bool true := hF.rel 2 _ rfl
          have ev3 : x 3 = .bool true := hF.rel 3 _ rfl
          have ev4 : x 4 = .int .i64 13 := hF.rel 4 _ rfl
          have ev5 : x 5 = .bool true := hF.rel 5 _ rfl
          have ev6 : x 6 = .bool true := hF.rel 6 _ rfl
          have ev7 : x 7 = .bool true := hF.rel 7 _ rfl
          have ev8 : x 8 = .agg #[.bool lv, .bool hv, .slice A1v n1v c1v, .slice A2v n2v c2v, .slice A3v n3v c3v] := hF.rel 8 _ rfl
          have ev9 : x 9 = .agg #[.bool false, .bool false, .slice none 0 0, .slice none 0 0, .slice none 0 0] := hF.rel 9 _ rfl
          have ev10 : x 10 = .bool true := hF.rel 10 _ rfl
          have ev11 : x 11 = .bool true := hF.rel 11 _ rfl
          have ev12 : x 12 = .bool true := hF.rel 12 _ rfl
          have ev13 : x 13 = .bool true := hF.rel 13 _ rfl
          have ev14 : x 14 = .bool true := hF.rel 14 _ rfl
          have hbf := hF.frame
          clear hF
          simp only [Sch.finL, zA, zB, zC, ev0, ev1, ev2, ev3, ev4, ev5, ev6, ev7, ev8, ev9, ev10, ev11, ev12, ev13, ev14]
          clear ev0 ev1 ev2 ev3 ev4 ev5 ev6 ev7 ev8 ev9 ev10 ev11 ev12 ev13 ev14
          go_wp2_with fail
          go_ret
          exact ⟨rfl, next_below HB0.out (next_below hB4 hbf)⟩
      | true =>
        obtain ⟨rfl, rfl⟩ : pv = valueT t ∧ pe = 0 := by have h := HPR.out; rw [if_pos rfl] at h; injection h with h1 h2; exact ⟨h1, h2⟩
        have HPP := hid (put_parts HM.out.symm)
        go_upto_region 6 with (go_at_call 11; (refine (KM1.out _ hB3).mono ?_); rintro e w4 ⟨rfl, hb4⟩)
        have hB4 := next_below hB3 hb4
        have BV4 := Kv.out _ hb4
        clear x_0 x_1 x_2 x_3 x_4 x_5 x_6 x_7 x_8 x_9
        have x_0 := BV4.cell 0
        have x_1 := BV4.cell 1
        have x_2 := BV4.cell 2
        have x_3 := BV4.cell 3
        have x_4 := BV4.cell 4
        have KGt := HO.out.get (valueT t) w4 _ _ (HST.out w4 hB4).2 (HIv.out.old hb4) HPP.out.2.2.2
        rw [show getR (valueT t) = (t, 0) by unfold getR; rw [HPP.out.2.2.1]; rfl] at KGt
        replace KGt := hid KGt
        go_upto_region 7 with (go_at_call 14; refine KGt.out.mono ?_; rintro e w5 ⟨v0, v1, v2, v3, v4, v5, v6, v7, v8, v9, rfl, hing, hb5⟩; obtain ⟨kg, og, i1g, p1g, i2g, p2g, A1g, n1g, c1g, A2g, n2g, c2g, A3g, n3g, c3g, A4g, n4g, c4g, ec⟩ := hing.lets; simp only [List.cons.injEq, and_true] at ec; obtain ⟨rfl, rfl, rfl, rfl, rfl, rfl, rfl, rfl, rfl, rfl⟩ := ec)
        have hbn := below_new w5 (.cells #[.int .u8 kg, .slice A1g n1g c1g, .slice A2g n2g c2g, .int .u8 og, .bool i1g, .bool p1g, .slice A3g n3g c3g, .bool i2g, .bool p2g, .slice A4g n4g c4g] 29)
        have hB6 := next_below (next_below hB4 hb5) hbn
        have Bg : Blk (w5.alloc (.cells #[.int .u8 kg, .slice A1g n1g c1g, .slice A2g n2g c2g, .int .u8 og, .bool i1g, .bool p1g, .slice A3g n3g c3g, .bool i2g, .bool p2g, .slice A4g n4g c4g] 29)) w5.heap.size 29 #[.int .u8 kg, .slice A1g n1g c1g, .slice A2g n2g c2g, .int .u8 og, .bool i1g, .bool p1g, .slice A3g n3g c3g, .bool i2g, .bool p2g, .slice A4g n4g c4g] := Blk.new _ _ _
        have HIg := hid (hing.old hbn)
        have hSg := next_below hb5 hbn
        clear hing hb5 hbn
        generalize hgg : w5.heap.size = gg at Bg ⊢
        generalize w5.alloc (.cells #[.int .u8 kg, .slice A1g n1g c1g, .slice A2g n2g c2g, .int .u8 og, .bool i1g, .bool p1g, .slice A3g n3g c3g, .bool i2g, .bool p2g, .slice A4g n4g c4g] 29) = W6 at *
        clear hgg
        have Kg : Hid (∀ W, Below W6.heap.size W6 W → Blk W gg 29 #[.int .u8 kg, .slice A1g n1g c1g, .slice A2g n2g c2g, .int .u8 og, .bool i1g, .bool p1g, .slice A3g n3g c3g, .bool i2g, .bool p2g, .slice A4g n4g c4g]) := fun W hW => Bg.old hW
        have hS6 := next_below hb4 hSg
        have Kv6 : Hid (∀ W, Below W6.heap.size W6 W → Blk W gv 34 #[.bool lv, .bool hv, .slice A1v n1v c1v, .slice A2v n2v c2v, .slice A3v n3v c3v]) := fun W hW => Kv.out W (next_below hS6 hW)
        have KX6 : Hid (∀ W, Below W6.heap.size W6 W → Blk W w.heap.size 29 #[.int .u8 ka, .slice A1a n1a c1a, .slice A2a n2a c2a, .int .u8 oa, .bool i1a, .bool p1a, .slice A3a n3a c3a, .bool i2a, .bool p2a, .slice A4a n4a c4a]) := fun W hW => KX0.out W (next_below hB6 hW)
        have KM6 : Hid (∀ W, Below W6.heap.size W6 W → Calls Tryz.prog 12 #[.agg #[.int .u8 ka, .slice A1a n1a c1a, .slice A2a n2a c2a, .int .u8 oa, .bool i1a, .bool p1a, .slice A3a n3a c3a, .bool i2a, .bool p2a, .slice A4a n4a c4a]] W fun e w' => e = .returned (.bool true) ∧ Below W.heap.size W w') := fun W hW => KM2.out W (next_below hB6 hW)
        have KV6 : Hid (∀ W, Below W6.heap.size W6 W → Calls Tryz.prog 15 #[.agg #[.int .u8 ka, .slice A1a n1a c1a, .slice A2a n2a c2a, .int .u8 oa, .bool i1a, .bool p1a, .slice A3a n3a c3a, .bool i2a, .bool p2a, .slice A4a n4a c4a]] W fun e w' => ∃ v, e = .returned v ∧ SxV (fun _ => True) 0 (valueT t) v w' ∧ Below W.heap.size W w') := fun W hW => by
          refine (refValue_any t W S _ (HST.out W (next_below hB6 hW)).1).mono ?_
          rintro e w' ⟨v, rfl, ⟨v0, v1, v2, v3, v4, rfl, hin⟩, hb⟩
          exact ⟨_, rfl, ⟨v0, v1, v2, v3, v4, rfl, hin.more fun _ _ => .inl trivial⟩, hb⟩
        have KS6 : Hid (∀ W, Below W6.heap.size W6 W → ∀ x, SxV (fun _ => True) 0 (valueT t) x W → ∃ c, x = .agg c ∧ Calls Tryz.prog 13 #[.agg #[.bool lv, .bool hv, .slice A1v n1v c1v, .slice A2v n2v c2v, .slice A3v n3v c3v], .agg c] W fun e w' => e = .returned (.bool true) ∧ Below W.heap.size W w') := fun W hW x hx => by
          obtain ⟨v0, v1, v2, v3, v4, rfl, hin⟩ := hx
          refine ⟨_, rfl, ?_⟩
          have h := refSame_any (valueT t) (valueT t) W _ _ _ _ (HIv.out.old (next_below hS6 hW)) hin
          rw [same_refl] at h; exact h
        have KT6 : Hid (∀ W, Below W6.heap.size W6 W → Calls Tryz.prog 16 #[.agg #[.int .u8 kg, .slice A1g n1g c1g, .slice A2g n2g c2g, .int .u8 og, .bool i1g, .bool p1g, .slice A3g n3g c3g, .bool i2g, .bool p2g, .slice A4g n4g c4g], .agg #[.int .u8 ka, .slice A1a n1a c1a, .slice A2a n2a c2a, .int .u8 oa, .bool i1a, .bool p1a, .slice A3a n3a c3a, .bool i2a, .bool p2a, .slice A4a n4a c4a]] W fun e w' => e = .returned (.bool true) ∧ Below W.heap.size W w') := fun W hW => by
          have h := refSame12_any t t W _ _ _ _ (HIg.out.old hW) (HST.out W (next_below hB6 hW)).1 HSM.out.1 HSM.out.1
          rw [sameT_refl] at h; exact h
        have KA6 : Hid (∀ W, Below W6.heap.size W6 W → Calls Tryz.prog 9 #[] W fun e w' => e = .returned (.bool true) ∧ Below W.heap.size W w') := fun W hW => KA.out W (next_below hB6 hW)
        clear x_0 x_1 x_2 x_3 x_4
        try simp only [Act.put]
        refine wp_R [38, 39, 40, 41, 42, 43, 44, 45, 46, 47, 48, 49, 50, 51, 52, 53, 54, 55, 56, 57, 58, 59, 60, 61] [Rk.val (.agg #[.int .u8 ka, .slice A1a n1a c1a, .slice A2a n2a c2a, .int .u8 oa, .bool i1a, .bool p1a, .slice A3a n3a c3a, .bool i2a, .bool p2a, .slice A4a n4a c4a]), Rk.val (.bool true), Rk.val (.bool true), Rk.val (.int .i64 0), Rk.val (.bool true), Rk.val (.bool true), Rk.val (.bool true), Rk.val (.agg #[.bool lv, .bool hv, .slice A1v n1v c1v, .slice A2v n2v c2v, .slice A3v n3v c3v]), Rk.val (.agg #[.int .u8 ka, .slice A1a n1a c1a, .slice A2a n2a c2a, .int .u8 oa, .bool i1a, .bool p1a, .slice A3a n3a c3a, .bool i2a, .bool p2a, .slice A4a n4a c4a]), Rk.is (SxV (fun _ => True) 0 (valueT t)) (fun v V V' h hb => SxV.old h hb), Rk.val (.bool true), Rk.val (.bool true), Rk.val (.bool true), Rk.val (.int .i64 0), Rk.val (.bool true), Rk.val (.bool true), Rk.val (.bool true), Rk.val (.agg #[.int .u8 kg, .slice A1g n1g c1g, .slice A2g n2g c2g, .int .u8 og, .bool i1g, .bool p1g, .slice A3g n3g c3g, .bool i2g, .bool p2g, .slice A4g n4g c4g]), Rk.val (.agg #[.int .u8 ka, .slice A1a n1a c1a, .slice A2a n2a c2a, .int .u8 oa, .bool i1a, .bool p1a, .slice A3a n3a c3a, .bool i2a, .bool p2a, .slice A4a n4a c4a]), Rk.val (.bool true), Rk.val (.bool true), Rk.val (.bool true), Rk.val (.bool true), Rk.val (.bool true)] rfl (by kernel_rfl) (by kernel_rfl) (by kernel_rfl) (by kernel_rfl) ?hgs _ (by rfl) ?hfs
        case hgs =>
          refine gr_val rfl (by kernel_rfl) (fun a V H K Q hK => op_quiet (quiet_load_row 29 (.tmp 1) w.heap.size (H.old 1 (by kernel_rfl) (by kernel_rfl)) 29 #[.int .u8 ka, .slice A1a n1a c1a, .slice A2a n2a c2a, .int .u8 oa, .bool i1a, .bool p1a, .slice A3a n3a c3a, .bool i2a, .bool p2a, .slice A4a n4a c4a] _ (KX6.out V H.frame) Tryz.underlying29 rfl (by kernel_rfl) (by kernel_rfl)) hK) ?_
          refine gr_val rfl (by kernel_rfl) (fun a V H K Q hK => op_callK #[.tmp 38] #[.agg #[.int .u8 ka, .slice A1a n1a c1a, .slice A2a n2a c2a, .int .u8 oa, .bool i1a, .bool p1a, .slice A3a n3a c3a, .bool i2a, .bool p2a, .slice A4a n4a c4a]] (by kernel_rfl) (by kernel_rfl) (by kernel_rfl) (map1 (H.rel 0 38 (by kernel_rfl) (by kernel_rfl) rfl)) (KM6.out V H.frame) (by kernel_rfl) hK) ?_
          refine gr_val rfl (by kernel_rfl) (fun a V H K Q hK => op_quiet (quiet_move (.tmp 39) (H.rel 1 39 (by kernel_rfl) (by kernel_rfl) rfl) (.inl (by kernel_rfl))) hK) ?_
          refine gr_onV (j := 2) (d := 40) (want := true) (u := .bool true) rfl (by kernel_rfl) (by kernel_rfl) (fun a V H => (H.rel 2 40 (by kernel_rfl) (by kernel_rfl) rfl)) (by kernel_rfl) (fun a V H K Q hK => op_quiet (quiet_move (.tmp 4) (H.old 4 (by kernel_rfl) (by kernel_rfl)) (.inl (by kernel_rfl))) hK) ?_
          refine gr_onV (j := 2) (d := 40) (want := true) (u := .bool true) rfl (by kernel_rfl) (by kernel_rfl) (fun a V H => (H.rel 2 40 (by kernel_rfl) (by kernel_rfl) rfl)) (by kernel_rfl) (fun a V H K Q hK => op_quiet (quiet_eqlI (.tmp 41) (.const (.int .i64 0)) 0 0 true 35 35 Tryz.underlying35 rfl (H.rel 3 41 (by kernel_rfl) (by kernel_rfl) rfl) (show a.eval (.const (.int .i64 0)) = .int .i64 0 from rfl) (by kernel_rfl)) hK) ?_
          refine gr_val rfl (by kernel_rfl) (fun a V H K Q hK => op_quiet (quiet_pickT (.tmp 40) (.tmp 42) (.const (.bool false)) (H.rel 2 40 (by kernel_rfl) (by kernel_rfl) rfl) (H.rel 4 42 (by kernel_rfl) (by kernel_rfl) rfl) (by kernel_rfl)) hK) ?_
          refine gr_val rfl (by kernel_rfl) (fun a V H K Q hK => op_quiet (quiet_move (.tmp 43) (H.rel 5 43 (by kernel_rfl) (by kernel_rfl) rfl) (.inl (by kernel_rfl))) hK) ?_
          refine gr_onV (j := 6) (d := 44) (want := true) (u := .bool true) rfl (by kernel_rfl) (by kernel_rfl) (fun a V H => (H.rel 6 44 (by kernel_rfl) (by kernel_rfl) rfl)) (by kernel_rfl) (fun a V H K Q hK => op_quiet (quiet_load_row 34 (.tmp 3) gv (H.old 3 (by kernel_rfl) (by kernel_rfl)) 34 #[.bool lv, .bool hv, .slice A1v n1v c1v, .slice A2v n2v c2v, .slice A3v n3v c3v] _ (Kv6.out V H.frame) Tryz.underlying34 rfl (by kernel_rfl) (by kernel_rfl)) hK) ?_
          refine gr_onV (j := 6) (d := 44) (want := true) (u := .bool true) rfl (by kernel_rfl) (by kernel_rfl) (fun a V H => (H.rel 6 44 (by kernel_rfl) (by kernel_rfl) rfl)) (by kernel_rfl) (fun a V H K Q hK => op_quiet (quiet_load_row 29 (.tmp 1) w.heap.size (H.old 1 (by kernel_rfl) (by kernel_rfl)) 29 #[.int .u8 ka, .slice A1a n1a c1a, .slice A2a n2a c2a, .int .u8 oa, .bool i1a, .bool p1a, .slice A3a n3a c3a, .bool i2a, .bool p2a, .slice A4a n4a c4a] _ (KX6.out V H.frame) Tryz.underlying29 rfl (by kernel_rfl) (by kernel_rfl)) hK) ?_
          refine gr_on (j := 6) (d := 44) (want := true) (u := .bool true) rfl (by kernel_rfl) (by kernel_rfl) (fun a V H => (H.rel 6 44 (by kernel_rfl) (by kernel_rfl) rfl)) (by kernel_rfl) (fun a V H K Q hK => op_callR #[.tmp 46] #[.agg #[.int .u8 ka, .slice A1a n1a c1a, .slice A2a n2a c2a, .int .u8 oa, .bool i1a, .bool p1a, .slice A3a n3a c3a, .bool i2a, .bool p2a, .slice A4a n4a c4a]] (by kernel_rfl) (by kernel_rfl) (by kernel_rfl) (map1 (H.rel 8 46 (by kernel_rfl) (by kernel_rfl) rfl)) (KV6.out V H.frame) (by kernel_rfl) hK) ?_
          refine gr_onV (j := 6) (d := 44) (want := true) (u := .bool true) rfl (by kernel_rfl) (by kernel_rfl) (fun a V H => (H.rel 6 44 (by kernel_rfl) (by kernel_rfl) rfl)) (by kernel_rfl) (fun a V H K Q hK => by
            obtain ⟨c, ec, hc⟩ := KS6.out V H.frame _ (show SxV (fun _ => True) 0 (valueT t) (a.eval (.tmp 47)) V from (H.rel 9 47 (by kernel_rfl) (by kernel_rfl) rfl))
            exact op_callK #[.tmp 45, .tmp 47] #[.agg #[.bool lv, .bool hv, .slice A1v n1v c1v, .slice A2v n2v c2v, .slice A3v n3v c3v], .agg c] (by kernel_rfl) (by kernel_rfl) (by kernel_rfl) (map2 (H.rel 7 45 (by kernel_rfl) (by kernel_rfl) rfl) ec) hc (by kernel_rfl) hK) ?_
          refine gr_val rfl (by kernel_rfl) (fun a V H K Q hK => op_quiet (quiet_pickT (.tmp 44) (.tmp 48) (.const (.bool false)) (H.rel 6 44 (by kernel_rfl) (by kernel_rfl) rfl) (H.rel 10 48 (by kernel_rfl) (by kernel_rfl) rfl) (by kernel_rfl)) hK) ?_
          refine gr_val rfl (by kernel_rfl) (fun a V H K Q hK => op_quiet (quiet_move (.tmp 49) (H.rel 11 49 (by kernel_rfl) (by kernel_rfl) rfl) (.inl (by kernel_rfl))) hK) ?_
          refine gr_onV (j := 12) (d := 50) (want := true) (u := .bool true) rfl (by kernel_rfl) (by kernel_rfl) (fun a V H => (H.rel 12 50 (by kernel_rfl) (by kernel_rfl) rfl)) (by kernel_rfl) (fun a V H K Q hK => op_quiet (quiet_move (.tmp 6) (H.old 6 (by kernel_rfl) (by kernel_rfl)) (.inl (by kernel_rfl))) hK) ?_
          refine gr_onV (j := 12) (d := 50) (want := true) (u := .bool true) rfl (by kernel_rfl) (by kernel_rfl) (fun a V H => (H.rel 12 50 (by kernel_rfl) (by kernel_rfl) rfl)) (by kernel_rfl) (fun a V H K Q hK => op_quiet (quiet_eqlI (.tmp 51) (.const (.int .i64 0)) 0 0 true 35 35 Tryz.underlying35 rfl (H.rel 13 51 (by kernel_rfl) (by kernel_rfl) rfl) (show a.eval (.const (.int .i64 0)) = .int .i64 0 from rfl) (by kernel_rfl)) hK) ?_
          refine gr_val rfl (by kernel_rfl) (fun a V H K Q hK => op_quiet (quiet_pickT (.tmp 50) (.tmp 52) (.const (.bool false)) (H.rel 12 50 (by kernel_rfl) (by kernel_rfl) rfl) (H.rel 14 52 (by kernel_rfl) (by kernel_rfl) rfl) (by kernel_rfl)) hK) ?_
          refine gr_val rfl (by kernel_rfl) (fun a V H K Q hK => op_quiet (quiet_move (.tmp 53) (H.rel 15 53 (by kernel_rfl) (by kernel_rfl) rfl) (.inl (by kernel_rfl))) hK) ?_
          refine gr_onV (j := 16) (d := 54) (want := true) (u := .bool true) rfl (by kernel_rfl) (by kernel_rfl) (fun a V H => (H.rel 16 54 (by kernel_rfl) (by kernel_rfl) rfl)) (by kernel_rfl) (fun a V H K Q hK => op_quiet (quiet_load_row 29 (.tmp 5) gg (H.old 5 (by kernel_rfl) (by kernel_rfl)) 29 #[.int .u8 kg, .slice A1g n1g c1g, .slice A2g n2g c2g, .int .u8 og, .bool i1g, .bool p1g, .slice A3g n3g c3g, .bool i2g, .bool p2g, .slice A4g n4g c4g] _ (Kg.out V H.frame) Tryz.underlying29 rfl (by kernel_rfl) (by kernel_rfl)) hK) ?_
          refine gr_onV (j := 16) (d := 54) (want := true) (u := .bool true) rfl (by kernel_rfl) (by kernel_rfl) (fun a V H => (H.rel 16 54 (by kernel_rfl) (by kernel_rfl) rfl)) (by kernel_rfl) (fun a V H K Q hK => op_quiet (quiet_load_row 29 (.tmp 1) w.heap.size (H.old 1 (by kernel_rfl) (by kernel_rfl)) 29 #[.int .u8 ka, .slice A1a n1a c1a, .slice A2a n2a c2a, .int .u8 oa, .bool i1a, .bool p1a, .slice A3a n3a c3a, .bool i2a, .bool p2a, .slice A4a n4a c4a] _ (KX6.out V H.frame) Tryz.underlying29 rfl (by kernel_rfl) (by kernel_rfl)) hK) ?_
          refine gr_onV (j := 16) (d := 54) (want := true) (u := .bool true) rfl (by kernel_rfl) (by kernel_rfl) (fun a V H => (H.rel 16 54 (by kernel_rfl) (by kernel_rfl) rfl)) (by kernel_rfl) (fun a V H K Q hK => op_callK #[.tmp 55, .tmp 56] #[.agg #[.int .u8 kg, .slice A1g n1g c1g, .slice A2g n2g c2g, .int .u8 og, .bool i1g, .bool p1g, .slice A3g n3g c3g, .bool i2g, .bool p2g, .slice A4g n4g c4g], .agg #[.int .u8 ka, .slice A1a n1a c1a, .slice A2a n2a c2a, .int .u8 oa, .bool i1a, .bool p1a, .slice A3a n3a c3a, .bool i2a, .bool p2a, .slice A4a n4a c4a]] (by kernel_rfl) (by kernel_rfl) (by kernel_rfl) (map2 (H.rel 17 55 (by kernel_rfl) (by kernel_rfl) rfl) (H.rel 18 56 (by kernel_rfl) (by kernel_rfl) rfl)) (KT6.out V H.frame) (by kernel_rfl) hK) ?_
          refine gr_val rfl (by kernel_rfl) (fun a V H K Q hK => op_quiet (quiet_pickT (.tmp 54) (.tmp 57) (.const (.bool false)) (H.rel 16 54 (by kernel_rfl) (by kernel_rfl) rfl) (H.rel 19 57 (by kernel_rfl) (by kernel_rfl) rfl) (by kernel_rfl)) hK) ?_
          refine gr_val rfl (by kernel_rfl) (fun a V H K Q hK => op_quiet (quiet_move (.tmp 58) (H.rel 20 58 (by kernel_rfl) (by kernel_rfl) rfl) (.inl (by kernel_rfl))) hK) ?_
          refine gr_onV (j := 21) (d := 59) (want := true) (u := .bool true) rfl (by kernel_rfl) (by kernel_rfl) (fun a V H => (H.rel 21 59 (by kernel_rfl) (by kernel_rfl) rfl)) (by kernel_rfl) (fun a V H K Q hK => op_callK #[] #[] (by kernel_rfl) (by kernel_rfl) (by kernel_rfl) map0 (KA6.out V H.frame) (by kernel_rfl) hK) ?_
          refine gr_val rfl (by kernel_rfl) (fun a V H K Q hK => op_quiet (quiet_pickT (.tmp 59) (.tmp 60) (.const (.bool false)) (H.rel 21 59 (by kernel_rfl) (by kernel_rfl) rfl) (H.rel 22 60 (by kernel_rfl) (by kernel_rfl) rfl) (by kernel_rfl)) hK) ?_
          exact gr_nil
        case hfs =>
          intro x V hF
          have ev0 : x 0 = .agg #[.int .u8 ka, .slice A1a n1a c1a, .slice A2a n2a c2a, .int .u8 oa, .bool i1a, .bool p1a, .slice A3a n3a c3a, .bool i2a, .bool p2a, .slice A4a n4a c4a] := hF.rel 0 _ rfl
          have ev1 : x 1 = .bool true := hF.rel 1 _ rfl
          have ev2 : x 2 = .bool true := hF.rel 2 _ rfl
          have ev3 : x 3 = .int .i64 0 := hF.rel 3 _ rfl
          have ev4 : x 4 = .bool true := hF.rel 4 _ rfl
          have ev5 : x 5 = .bool true := hF.rel 5 _ rfl
          have ev6 : x 6 = .bool true := hF.rel 6 _ rfl
          have ev7 : x 7 = .agg #[.bool lv, .bool hv, .slice A1v n1v c1v, .slice A2v n2v c2v, .slice A3v n3v c3v] := hF.rel 7 _ rfl
          have ev8 : x 8 = .agg #[.int .u8 ka, .slice A1a n1a c1a, .slice A2a n2a c2a, .int .u8 oa, .bool i1a, .bool p1a, .slice A3a n3a c3a, .bool i2a, .bool p2a, .slice A4a n4a c4a] := hF.rel 8 _ rfl
          have rv9 := hF.rel 9 _ rfl
          generalize hy9 : x 9 = y9 at rv9 ⊢
          have ev10 : x 10 = .bool true := hF.rel 10 _ rfl
          have ev11 : x 11 = .bool true := hF.rel 11 _ rfl
          have ev12 : x 12 = .bool true := hF.rel 12 _ rfl
          have ev13 : x 13 = .int .i64 0 := hF.rel 13 _ rfl
          have ev14 : x 14 = .bool true := hF.rel 14 _ rfl
          have ev15 : x 15 = .bool true := hF.rel 15 _ rfl
          have ev16 : x 16 = .bool true := hF.rel 16 _ rfl
          have ev17 : x 17 = .agg #[.int .u8 kg, .slice A1g n1g c1g, .slice A2g n2g c2g, .int .u8 og, .bool i1g, .bool p1g, .slice A3g n3g c3g, .bool i2g, .bool p2g, .slice A4g n4g c4g] := hF.rel 17 _ rfl
          have ev18 : x 18 = .agg #[.int .u8 ka, .slice A1a n1a c1a, .slice A2a n2a c2a, .int .u8 oa, .bool i1a, .bool p1a, .slice A3a n3a c3a, .bool i2a, .bool p2a, .slice A4a n4a c4a] := hF.rel 18 _ rfl
          have ev19 : x 19 = .bool true := hF.rel 19 _ rfl
          have ev20 : x 20 = .bool true := hF.rel 20 _ rfl
          have ev21 : x 21 = .bool true := hF.rel 21 _ rfl
          have ev22 : x 22 = .bool true := hF.rel 22 _ rfl
          have ev23 : x 23 = .bool true := hF.rel 23 _ rfl
          have hbf := hF.frame
          clear hF
          simp only [Sch.finL, zA, zB, zC, ev0, ev1, ev2, ev3, ev4, ev5, ev6, ev7, ev8, hy9, ev10, ev11, ev12, ev13, ev14, ev15, ev16, ev17, ev18, ev19, ev20, ev21, ev22, ev23]
          clear ev0 ev1 ev2 ev3 ev4 ev5 ev6 ev7 ev8 hy9 ev10 ev11 ev12 ev13 ev14 ev15 ev16 ev17 ev18 ev19 ev20 ev21 ev22 ev23
          go_wp2_with fail
          go_ret
          exact ⟨rfl, next_below HB0.out (next_below hB6 hbf)⟩
end Go.Proofs.YtinlonpcakkfhaaGreatDoor
