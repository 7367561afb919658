/-
  The walk of the law TagReads over contracts of the program's package tag. Conditions: those contracts; at most 2^40 nodes and bytes.
-/
import Derived.Test.YtinlonpcakkfhaaGreatDoorM6
set_option linter.unusedVariables false
set_option linter.unusedSimpArgs false
open Go.Lib (hid)
open Go.Proofs.YtinlonpcakkfhaaGreatDoor (zA zB zC zD zE zF)
set_option maxRecDepth 100000
namespace Go.Proofs.YtinlonpcakkfhaaGreatDoor
open Go Go.Proofs Go.RowKit Sx _root_.Ord11 Go.Proofs.YtinlonpcakkfhaaGreatDoor.Ord11 _root_.Tag12 Sch
set_option maxHeartbeats 8000000 in
theorem treads_walk {Q : World → Prop} (H : TagOk Q) (v : SX) (w : World) (S : Nat → Prop) (cs : List Value) (hQ : Q w) (hs : SIn w S v cs) (hz : SmallX v) :
    Calls Tryz.prog 4 #[.agg cs.toArray] w fun e w' => e = .returned (.bool true) ∧ Below w.heap.size w w' := by
  obtain ⟨lv, hv, A1v, n1v, c1v, A2v, n2v, c2v, A3v, n3v, c3v, rfl⟩ := hs.lets
  obtain ⟨w0, hw0⟩ : ∃ w0, w0 = (w.alloc (.cells #[.bool lv, .bool hv, .slice A1v n1v c1v, .slice A2v n2v c2v, .slice A3v n3v c3v] 34)) := ⟨_, rfl⟩
  have HB0 : Hid (Below w.heap.size w w0) := by
    show Below _ _ _
    rw [hw0]
    exact below_new _ _
  have B0 : Blk w0 w.heap.size 34 #[.bool lv, .bool hv, .slice A1v n1v c1v, .slice A2v n2v c2v, .slice A3v n3v c3v] := by
    rw [hw0]
    exact Blk.new w 34 #[.bool lv, .bool hv, .slice A1v n1v c1v, .slice A2v n2v c2v, .slice A3v n3v c3v]
  have KX0 : Hid (∀ W, Below w0.heap.size w0 W → Blk W w.heap.size 34 #[.bool lv, .bool hv, .slice A1v n1v c1v, .slice A2v n2v c2v, .slice A3v n3v c3v]) := fun W hW => B0.old hW
  have HR : Below w0.heap.size w0 w0 := Below.refl _ _
  have KA : Hid (∀ W, Below w0.heap.size w0 W → Calls Tryz.prog 9 #[] W fun e w' => e = .returned (.bool true) ∧ Below W.heap.size W w') := fun W hW => awake12_any H W (H.old hQ (next_below HB0.out hW))
  have KG1 : Hid (∀ W, Below w0.heap.size w0 W → Calls Tryz.prog 17 #[.agg #[.bool lv, .bool hv, .slice A1v n1v c1v, .slice A2v n2v c2v, .slice A3v n3v c3v], .int .i64 0] W (SomeBool W)) := fun W hW => great_any v W S _ 0 (hs.old (next_below HB0.out hW)) (by omega) (by omega)
  have HSV : Hid (∀ W, Below w0.heap.size w0 W → SIn W S v [.bool lv, .bool hv, .slice A1v n1v c1v, .slice A2v n2v c2v, .slice A3v n3v c3v] ∧ Q W) := fun W hW => ⟨hs.old (next_below HB0.out hW), H.old hQ (next_below HB0.out hW)⟩
  have HO := hid H
  have HZ := hid hz
  clear hs hz
  go_enter Tryz.func4, Tryz.ntmps4
  go_upto_region 1 with fail
  rw [← hw0]
  clear hw0
  have x_0 := B0.cell 0
  have x_1 := B0.cell 1
  have x_2 := B0.cell 2
  have x_3 := B0.cell 3
  have x_4 := B0.cell 4
  go_cut [10] (fun p wx => ∃ b : Bool, p = .bool b ∧ Below w0.heap.size w0 wx)
  case first =>
    go_wp2_with (go_at_call 17; (refine (KG1.out _ HR).mono ?_); rintro e w1 ⟨b, rfl, hb1⟩)
    all_goals go_meet
    all_goals exact ⟨_, rfl, hb1⟩
  case rest =>
    obtain ⟨b, rfl, hb⟩ := hcut
    clear x_0 x_1 x_2 x_3 x_4
    have BX := KX0.out _ hb
    have x_0 := BX.cell 0
    have x_1 := BX.cell 1
    have x_2 := BX.cell 2
    have x_3 := BX.cell 3
    have x_4 := BX.cell 4
    cases b with
    | true =>
      go_wp2_with (go_at_call 9; (refine (KA.out _ hb).mono ?_); rintro e wA ⟨rfl, hbA⟩)
      go_ret
      exact ⟨rfl, next_below HB0.out (next_below hb hbA)⟩
    | false =>
      obtain ⟨ga, hga⟩ : ∃ a, a = getA v := ⟨_, rfl⟩
      obtain ⟨gt, hgt⟩ : ∃ t, t = (getR v).1 := ⟨_, rfl⟩
      obtain ⟨ge, hge⟩ : ∃ t, t = (getR v).2 := ⟨_, rfl⟩
      have KGt : Hid (∀ W, Below w0.heap.size w0 W → Calls Tryz.prog 14 #[.agg #[.bool lv, .bool hv, .slice A1v n1v c1v, .slice A2v n2v c2v, .slice A3v n3v c3v]] W fun e w' => ∃ v0 v1 v2 v3 v4 v5 v6 v7 v8 v9, e = .returned (.tuple #[.agg #[v0, v1, v2, v3, v4, v5, v6, v7, v8, v9], .int .i64 ge]) ∧ TIn w' (fun b => S b ∨ W.heap.size ≤ b) gt [v0, v1, v2, v3, v4, v5, v6, v7, v8, v9] ∧ Below W.heap.size W w') := fun W hW => by rw [hgt, hge]; exact HO.out.get v W S _ (HSV.out W hW).2 (HSV.out W hW).1 HZ.out
      have KGr : Hid (∀ W, Below w0.heap.size w0 W → Calls Tryz.prog 18 #[.agg #[.bool lv, .bool hv, .slice A1v n1v c1v, .slice A2v n2v c2v, .slice A3v n3v c3v]] W fun e w' => ∃ x, e = .returned x ∧ TagA ga (fun b => S b ∨ W.heap.size ≤ b) x w' ∧ Below W.heap.size W w') := fun W hW => by rw [hga]; exact refGetX_any v W S _ (HSV.out W hW).1 HZ.out
      have HGR : Hid (getR v = resT ga) := by show _ = _; rw [hga]; rfl
      have HGT : Hid (gt = (getR v).1 ∧ ge = (getR v).2) := ⟨hgt, hge⟩
      have HGA := hid hga
      clear hga hgt hge
      go_upto_region 4 with (go_at_call 14; (refine (KGt.out _ hb).mono ?_); rintro e w2 ⟨v0, v1, v2, v3, v4, v5, v6, v7, v8, v9, rfl, hing, hb2⟩; obtain ⟨kg, og, i1g, p1g, i2g, p2g, A1g, n1g, c1g, A2g, n2g, c2g, A3g, n3g, c3g, A4g, n4g, c4g, ec⟩ := hing.lets; simp only [List.cons.injEq, and_true] at ec; obtain ⟨rfl, rfl, rfl, rfl, rfl, rfl, rfl, rfl, rfl, rfl⟩ := ec)
      have hbn := below_new w2 (.cells #[.int .u8 kg, .slice A1g n1g c1g, .slice A2g n2g c2g, .int .u8 og, .bool i1g, .bool p1g, .slice A3g n3g c3g, .bool i2g, .bool p2g, .slice A4g n4g c4g] 29)
      have hB3 := next_below (next_below hb hb2) hbn
      have Bg : Blk (w2.alloc (.cells #[.int .u8 kg, .slice A1g n1g c1g, .slice A2g n2g c2g, .int .u8 og, .bool i1g, .bool p1g, .slice A3g n3g c3g, .bool i2g, .bool p2g, .slice A4g n4g c4g] 29)) w2.heap.size 29 #[.int .u8 kg, .slice A1g n1g c1g, .slice A2g n2g c2g, .int .u8 og, .bool i1g, .bool p1g, .slice A3g n3g c3g, .bool i2g, .bool p2g, .slice A4g n4g c4g] := Blk.new _ _ _
      have HIg := hid (hing.old hbn)
      have hSg := next_below hb2 hbn
      clear hing hb2 hbn
      generalize hgg : w2.heap.size = gg at Bg ⊢
      generalize w2.alloc (.cells #[.int .u8 kg, .slice A1g n1g c1g, .slice A2g n2g c2g, .int .u8 og, .bool i1g, .bool p1g, .slice A3g n3g c3g, .bool i2g, .bool p2g, .slice A4g n4g c4g] 29) = W3 at *
      clear hgg
      have Kg : Hid (∀ W, Below W3.heap.size W3 W → Blk W gg 29 #[.int .u8 kg, .slice A1g n1g c1g, .slice A2g n2g c2g, .int .u8 og, .bool i1g, .bool p1g, .slice A3g n3g c3g, .bool i2g, .bool p2g, .slice A4g n4g c4g]) := fun W hW => Bg.old hW
      clear x_0 x_1 x_2 x_3 x_4
      have BX3 := KX0.out _ hB3
      have x_0 := BX3.cell 0
      have x_1 := BX3.cell 1
      have x_2 := BX3.cell 2
      have x_3 := BX3.cell 3
      have x_4 := BX3.cell 4
      go_upto_region 5 with (go_at_call 18; (refine (KGr.out _ hB3).mono ?_); rintro e w4 ⟨vx, rfl, hta, hb4⟩; obtain ⟨tu, ku, ou, i1u, p1u, i2u, p2u, A1u, n1u, c1u, A2u, n2u, c2u, A3u, n3u, c3u, A4u, n4u, c4u, rfl, hinu, hyu⟩ := hta.ten)
      have HYU := hid hyu
      clear hta hyu
      have hbn := below_new w4 (.cells #[.int .u8 ku, .slice A1u n1u c1u, .slice A2u n2u c2u, .int .u8 ou, .bool i1u, .bool p1u, .slice A3u n3u c3u, .bool i2u, .bool p2u, .slice A4u n4u c4u] 29)
      have hB5 := next_below (next_below hB3 hb4) hbn
      have Bu : Blk (w4.alloc (.cells #[.int .u8 ku, .slice A1u n1u c1u, .slice A2u n2u c2u, .int .u8 ou, .bool i1u, .bool p1u, .slice A3u n3u c3u, .bool i2u, .bool p2u, .slice A4u n4u c4u] 29)) w4.heap.size 29 #[.int .u8 ku, .slice A1u n1u c1u, .slice A2u n2u c2u, .int .u8 ou, .bool i1u, .bool p1u, .slice A3u n3u c3u, .bool i2u, .bool p2u, .slice A4u n4u c4u] := Blk.new _ _ _
      have HIu := hid (hinu.old hbn)
      have hSu := next_below hb4 hbn
      clear hinu hb4 hbn
      generalize hgu : w4.heap.size = gu at Bu ⊢
      generalize w4.alloc (.cells #[.int .u8 ku, .slice A1u n1u c1u, .slice A2u n2u c2u, .int .u8 ou, .bool i1u, .bool p1u, .slice A3u n3u c3u, .bool i2u, .bool p2u, .slice A4u n4u c4u] 29) = W5 at *
      clear hgu
      have Ku : Hid (∀ W, Below W5.heap.size W5 W → Blk W gu 29 #[.int .u8 ku, .slice A1u n1u c1u, .slice A2u n2u c2u, .int .u8 ou, .bool i1u, .bool p1u, .slice A3u n3u c3u, .bool i2u, .bool p2u, .slice A4u n4u c4u]) := fun W hW => Bu.old hW
      have Kg' := fun W hW => Kg.out W (next_below hSu hW)
      clear Kg
      have Kg := hid Kg'
      clear Kg'
      replace HIg := hid (HIg.out.old hSu)
      clear x_0 x_1 x_2 x_3 x_4
      have BX5 := KX0.out _ hB5
      have BG5 := Kg.out _ (Below.refl _ _)
      have x_0 := BX5.cell 0
      have x_1 := BX5.cell 1
      have x_2 := BX5.cell 2
      have x_3 := BX5.cell 3
      have x_4 := BX5.cell 4
      cases ga with
      | none =>
        obtain ⟨rfl, rfl⟩ : gt = zeroT ∧ ge = 13 := by rw [HGT.out.1, HGT.out.2, HGR.out]; exact ⟨rfl, rfl⟩
        have hnB : (none : Option TG).isSome = false := rfl
        rw [hnB]
        have KS : Hid (∀ W, Below W5.heap.size W5 W → Calls Tryz.prog 16 #[.agg #[.int .u8 kg, .slice A1g n1g c1g, .slice A2g n2g c2g, .int .u8 og, .bool i1g, .bool p1g, .slice A3g n3g c3g, .bool i2g, .bool p2g, .slice A4g n4g c4g], .agg #[.int .u8 0, .slice none 0 0, .slice none 0 0, .int .u8 0, .bool false, .bool false, .slice none 0 0, .bool false, .bool false, .slice none 0 0]] W fun e w' => e = .returned (.bool true) ∧ Below W.heap.size W w') := fun W hW => by
          have h := refSame12_any zeroT zeroT W _ (fun _ => True) _ _ (HIg.out.old hW) tin_zero rfl rfl
          rw [sameT_refl] at h; exact h
        have KA5 : Hid (∀ W, Below W5.heap.size W5 W → Calls Tryz.prog 9 #[] W fun e w' => e = .returned (.bool true) ∧ Below W.heap.size W w') := fun W hW => KA.out W (next_below hB5 hW)
        go_upto_region 6 with fail
        try simp only [Act.put]
        refine wp_R [24, 25, 26, 27, 28, 29, 30, 31, 32, 33] [Rk.val (.int .i64 13), Rk.val (.bool true), Rk.val (.bool true), Rk.val (.agg #[.int .u8 kg, .slice A1g n1g c1g, .slice A2g n2g c2g, .int .u8 og, .bool i1g, .bool p1g, .slice A3g n3g c3g, .bool i2g, .bool p2g, .slice A4g n4g c4g]), Rk.val (.agg #[.int .u8 0, .slice none 0 0, .slice none 0 0, .int .u8 0, .bool false, .bool false, .slice none 0 0, .bool false, .bool false, .slice none 0 0]), Rk.val (.bool true), Rk.val (.bool true), Rk.val (.bool true), Rk.val (.bool true), Rk.val (.bool true)] rfl (by kernel_rfl) (by kernel_rfl) (by kernel_rfl) (by kernel_rfl) ?hgn _ (by rfl) ?hfn
        case hgn =>
          refine gr_val rfl (by kernel_rfl) (fun a V H K Q hK => op_quiet (quiet_move (.tmp 4) (H.old 4 (by kernel_rfl) (by kernel_rfl)) (.inl (by kernel_rfl))) hK) ?_
          refine gr_val rfl (by kernel_rfl) (fun a V H K Q hK => op_quiet (quiet_eqlI (.tmp 24) (.const (.int .i64 13)) 13 13 true 35 35 Tryz.underlying35 rfl (H.rel 0 24 (by kernel_rfl) (by kernel_rfl) rfl) (show a.eval (.const (.int .i64 13)) = .int .i64 13 from rfl) (by kernel_rfl)) hK) ?_
          refine gr_val rfl (by kernel_rfl) (fun a V H K Q hK => op_quiet (quiet_move (.tmp 25) (H.rel 1 25 (by kernel_rfl) (by kernel_rfl) rfl) (.inl (by kernel_rfl))) hK) ?_
          refine gr_onV (j := 2) (d := 26) (want := true) (u := .bool true) rfl (by kernel_rfl) (by kernel_rfl) (fun a V H => (H.rel 2 26 (by kernel_rfl) (by kernel_rfl) rfl)) (by kernel_rfl) (fun a V H K Q hK => op_quiet (quiet_load_row 29 (.tmp 3) gg (H.old 3 (by kernel_rfl) (by kernel_rfl)) 29 #[.int .u8 kg, .slice A1g n1g c1g, .slice A2g n2g c2g, .int .u8 og, .bool i1g, .bool p1g, .slice A3g n3g c3g, .bool i2g, .bool p2g, .slice A4g n4g c4g] _ (Kg.out V H.frame) Tryz.underlying29 rfl (by kernel_rfl) (by kernel_rfl)) hK) ?_
          refine gr_onV (j := 2) (d := 26) (want := true) (u := .bool true) rfl (by kernel_rfl) (by kernel_rfl) (fun a V H => (H.rel 2 26 (by kernel_rfl) (by kernel_rfl) rfl)) (by kernel_rfl) (fun a V H K Q hK => op_quiet (quiet_bld 29 _ _ bld0 #[.int .u8 0, .slice none 0 0, .slice none 0 0, .int .u8 0, .bool false, .bool false, .slice none 0 0, .bool false, .bool false, .slice none 0 0] (by kernel_rfl) (by kernel_rfl)) hK) ?_
          refine gr_onV (j := 2) (d := 26) (want := true) (u := .bool true) rfl (by kernel_rfl) (by kernel_rfl) (fun a V H => (H.rel 2 26 (by kernel_rfl) (by kernel_rfl) rfl)) (by kernel_rfl) (fun a V H K Q hK => op_callK #[.tmp 27, .tmp 28] #[.agg #[.int .u8 kg, .slice A1g n1g c1g, .slice A2g n2g c2g, .int .u8 og, .bool i1g, .bool p1g, .slice A3g n3g c3g, .bool i2g, .bool p2g, .slice A4g n4g c4g], .agg #[.int .u8 0, .slice none 0 0, .slice none 0 0, .int .u8 0, .bool false, .bool false, .slice none 0 0, .bool false, .bool false, .slice none 0 0]] (by kernel_rfl) (by kernel_rfl) (by kernel_rfl) (map2 (H.rel 3 27 (by kernel_rfl) (by kernel_rfl) rfl) (H.rel 4 28 (by kernel_rfl) (by kernel_rfl) rfl)) (KS.out V H.frame) (by kernel_rfl) hK) ?_
          refine gr_val rfl (by kernel_rfl) (fun a V H K Q hK => op_quiet (quiet_pickT (.tmp 26) (.tmp 29) (.const (.bool false)) (H.rel 2 26 (by kernel_rfl) (by kernel_rfl) rfl) (H.rel 5 29 (by kernel_rfl) (by kernel_rfl) rfl) (by kernel_rfl)) hK) ?_
          refine gr_val rfl (by kernel_rfl) (fun a V H K Q hK => op_quiet (quiet_move (.tmp 30) (H.rel 6 30 (by kernel_rfl) (by kernel_rfl) rfl) (.inl (by kernel_rfl))) hK) ?_
          refine gr_onV (j := 7) (d := 31) (want := true) (u := .bool true) rfl (by kernel_rfl) (by kernel_rfl) (fun a V H => (H.rel 7 31 (by kernel_rfl) (by kernel_rfl) rfl)) (by kernel_rfl) (fun a V H K Q hK => op_callK #[] #[] (by kernel_rfl) (by kernel_rfl) (by kernel_rfl) map0 (KA5.out V H.frame) (by kernel_rfl) hK) ?_
          refine gr_val rfl (by kernel_rfl) (fun a V H K Q hK => op_quiet (quiet_pickT (.tmp 31) (.tmp 32) (.const (.bool false)) (H.rel 7 31 (by kernel_rfl) (by kernel_rfl) rfl) (H.rel 8 32 (by kernel_rfl) (by kernel_rfl) rfl) (by kernel_rfl)) hK) ?_
          exact gr_nil
        case hfn =>
          intro x V hF
          have ev0 : x 0 = .int .i64 13 := hF.rel 0 _ rfl
          have ev1 : x 1 = .bool true := hF.rel 1 _ rfl
          have ev2 : x 2 = .bool true := hF.rel 2 _ rfl
          have ev3 : x 3 = .agg #[.int .u8 kg, .slice A1g n1g c1g, .slice A2g n2g c2g, .int .u8 og, .bool i1g, .bool p1g, .slice A3g n3g c3g, .bool i2g, .bool p2g, .slice A4g n4g c4g] := hF.rel 3 _ rfl
          have ev4 : x 4 = .agg #[.int .u8 0, .slice none 0 0, .slice none 0 0, .int .u8 0, .bool false, .bool false, .slice none 0 0, .bool false, .bool false, .slice none 0 0] := hF.rel 4 _ rfl
          have ev5 : x 5 = .bool true := hF.rel 5 _ rfl
          have ev6 : x 6 = .bool true := hF.rel 6 _ rfl
          have ev7 : x 7 = .bool true := hF.rel 7 _ rfl
          have ev8 : x 8 = .bool true := hF.rel 8 _ rfl
          have ev9 : x 9 = .bool true := hF.rel 9 _ rfl
          have hbf := hF.frame
          clear hF
          simp only [Sch.finL, zA, zB, zC, ev0, ev1, ev2, ev3, ev4, ev5, ev6, ev7, ev8, ev9]
          clear ev0 ev1 ev2 ev3 ev4 ev5 ev6 ev7 ev8 ev9
          go_wp2_with fail
          go_ret
          exact ⟨rfl, next_below HB0.out (next_below hB5 hbf)⟩
      | some t =>
        obtain ⟨rfl, rfl⟩ : gt = t ∧ ge = 0 := by rw [HGT.out.1, HGT.out.2, HGR.out]; exact ⟨rfl, rfl⟩
        obtain rfl := HYU.out gt rfl
        have hnB : (some gt : Option TG).isSome = true := rfl
        rw [hnB]
        have HP := hid (get_parts HGA.out.symm)
        have hput : putR gt = (v, 0) := by unfold putR; rw [if_pos HP.out.2.2.2.1, HP.out.2.1]
        have KP := HO.out.put gt W5 _ _ (HSV.out W5 hB5).2 HIg.out HP.out.2.2.2.2.1
        rw [hput] at KP
        replace KP := hid KP
        clear hput
        have y_0 := BG5.cell 0
        have y_1 := BG5.cell 1
        have y_2 := BG5.cell 2
        have y_3 := BG5.cell 3
        have y_4 := BG5.cell 4
        have y_5 := BG5.cell 5
        have y_6 := BG5.cell 6
        have y_7 := BG5.cell 7
        have y_8 := BG5.cell 8
        have y_9 := BG5.cell 9
        go_upto_region 8 with (go_at_call 10; refine KP.out.mono ?_; rintro e w6 ⟨v0, v1, v2, v3, v4, rfl, hinp, hb6⟩; obtain ⟨lp, hp, A1p, n1p, c1p, A2p, n2p, c2p, A3p, n3p, c3p, ec⟩ := hinp.lets; simp only [List.cons.injEq, and_true] at ec; obtain ⟨rfl, rfl, rfl, rfl, rfl⟩ := ec)
        have hbn := below_new w6 (.cells #[.bool lp, .bool hp, .slice A1p n1p c1p, .slice A2p n2p c2p, .slice A3p n3p c3p] 34)
        have hB7 := next_below (next_below hB5 hb6) hbn
        have Bp : Blk (w6.alloc (.cells #[.bool lp, .bool hp, .slice A1p n1p c1p, .slice A2p n2p c2p, .slice A3p n3p c3p] 34)) w6.heap.size 34 #[.bool lp, .bool hp, .slice A1p n1p c1p, .slice A2p n2p c2p, .slice A3p n3p c3p] := Blk.new _ _ _
        have HIp := hid (hinp.old hbn)
        have hSp := next_below hb6 hbn
        clear hinp hb6 hbn
        generalize hgp : w6.heap.size = gp at Bp ⊢
        generalize w6.alloc (.cells #[.bool lp, .bool hp, .slice A1p n1p c1p, .slice A2p n2p c2p, .slice A3p n3p c3p] 34) = W7 at *
        clear hgp
        have Kp : Hid (∀ W, Below W7.heap.size W7 W → Blk W gp 34 #[.bool lp, .bool hp, .slice A1p n1p c1p, .slice A2p n2p c2p, .slice A3p n3p c3p]) := fun W hW => Bp.old hW
        have Kg' := fun W hW => Kg.out W (next_below hSp hW)
        clear Kg
        have Kg := hid Kg'
        clear Kg'
        replace HIg := hid (HIg.out.old hSp)
        have Ku' := fun W hW => Ku.out W (next_below hSp hW)
        clear Ku
        have Ku := hid Ku'
        clear Ku'
        replace HIu := hid (HIu.out.old hSp)
        have KX7 : Hid (∀ W, Below W7.heap.size W7 W → Blk W w.heap.size 34 #[.bool lv, .bool hv, .slice A1v n1v c1v, .slice A2v n2v c2v, .slice A3v n3v c3v]) := fun W hW => KX0.out W (next_below hB7 hW)
        have KS1 : Hid (∀ W, Below W7.heap.size W7 W → Calls Tryz.prog 16 #[.agg #[.int .u8 kg, .slice A1g n1g c1g, .slice A2g n2g c2g, .int .u8 og, .bool i1g, .bool p1g, .slice A3g n3g c3g, .bool i2g, .bool p2g, .slice A4g n4g c4g], .agg #[.int .u8 ku, .slice A1u n1u c1u, .slice A2u n2u c2u, .int .u8 ou, .bool i1u, .bool p1u, .slice A3u n3u c3u, .bool i2u, .bool p2u, .slice A4u n4u c4u]] W fun e w' => e = .returned (.bool true) ∧ Below W.heap.size W w') := fun W hW => by
          have h := refSame12_any gt gt W _ _ _ _ (HIg.out.old hW) (HIu.out.old hW) HP.out.2.2.2.2.1.1 HP.out.2.2.2.2.1.1
          rw [sameT_refl] at h; exact h
        have KM : Hid (∀ W, Below W7.heap.size W7 W → Calls Tryz.prog 11 #[.agg #[.int .u8 kg, .slice A1g n1g c1g, .slice A2g n2g c2g, .int .u8 og, .bool i1g, .bool p1g, .slice A3g n3g c3g, .bool i2g, .bool p2g, .slice A4g n4g c4g]] W fun e w' => e = .returned (.bool true) ∧ Below W.heap.size W w') := fun W hW => by
          have h := refTagMay_any gt W _ _ (HIg.out.old hW) HP.out.2.2.2.2.1.1 HP.out.2.2.2.2.1.2.1 HP.out.2.2.2.2.1.2.2
          rw [show (rightT ordC gt && may (valueT gt)) = true from HP.out.2.2.2.1] at h; exact h
        have KS2 : Hid (∀ W, Below W7.heap.size W7 W → Calls Tryz.prog 13 #[.agg #[.bool lp, .bool hp, .slice A1p n1p c1p, .slice A2p n2p c2p, .slice A3p n3p c3p], .agg #[.bool lv, .bool hv, .slice A1v n1v c1v, .slice A2v n2v c2v, .slice A3v n3v c3v]] W fun e w' => e = .returned (.bool true) ∧ Below W.heap.size W w') := fun W hW => by
          have h := refSame_any v v W _ _ _ _ (HIp.out.old hW) (HSV.out W (next_below hB7 hW)).1
          rw [same_refl] at h; exact h
        have KA7 : Hid (∀ W, Below W7.heap.size W7 W → Calls Tryz.prog 9 #[] W fun e w' => e = .returned (.bool true) ∧ Below W.heap.size W w') := fun W hW => KA.out W (next_below hB7 hW)
        try simp only [Act.put]
        refine wp_R [39, 40, 41, 42, 43, 44, 45, 46, 47, 48, 49, 50, 51, 52, 53, 54, 55, 56, 57, 58, 59, 60, 61] [Rk.val (.int .i64 0), Rk.val (.bool true), Rk.val (.bool true), Rk.val (.agg #[.int .u8 kg, .slice A1g n1g c1g, .slice A2g n2g c2g, .int .u8 og, .bool i1g, .bool p1g, .slice A3g n3g c3g, .bool i2g, .bool p2g, .slice A4g n4g c4g]), Rk.val (.agg #[.int .u8 ku, .slice A1u n1u c1u, .slice A2u n2u c2u, .int .u8 ou, .bool i1u, .bool p1u, .slice A3u n3u c3u, .bool i2u, .bool p2u, .slice A4u n4u c4u]), Rk.val (.bool true), Rk.val (.bool true), Rk.val (.bool true), Rk.val (.agg #[.int .u8 kg, .slice A1g n1g c1g, .slice A2g n2g c2g, .int .u8 og, .bool i1g, .bool p1g, .slice A3g n3g c3g, .bool i2g, .bool p2g, .slice A4g n4g c4g]), Rk.val (.bool true), Rk.val (.bool true), Rk.val (.bool true), Rk.val (.int .i64 0), Rk.val (.bool true), Rk.val (.bool true), Rk.val (.bool true), Rk.val (.agg #[.bool lp, .bool hp, .slice A1p n1p c1p, .slice A2p n2p c2p, .slice A3p n3p c3p]), Rk.val (.agg #[.bool lv, .bool hv, .slice A1v n1v c1v, .slice A2v n2v c2v, .slice A3v n3v c3v]), Rk.val (.bool true), Rk.val (.bool true), Rk.val (.bool true), Rk.val (.bool true), Rk.val (.bool true)] rfl (by kernel_rfl) (by kernel_rfl) (by kernel_rfl) (by kernel_rfl) ?hgs _ (by rfl) ?hfs
        case hgs =>
          refine gr_val rfl (by kernel_rfl) (fun a V H K Q hK => op_quiet (quiet_move (.tmp 4) (H.old 4 (by kernel_rfl) (by kernel_rfl)) (.inl (by kernel_rfl))) hK) ?_
          refine gr_val rfl (by kernel_rfl) (fun a V H K Q hK => op_quiet (quiet_eqlI (.tmp 39) (.const (.int .i64 0)) 0 0 true 35 35 Tryz.underlying35 rfl (H.rel 0 39 (by kernel_rfl) (by kernel_rfl) rfl) (show a.eval (.const (.int .i64 0)) = .int .i64 0 from rfl) (by kernel_rfl)) hK) ?_
          refine gr_val rfl (by kernel_rfl) (fun a V H K Q hK => op_quiet (quiet_move (.tmp 40) (H.rel 1 40 (by kernel_rfl) (by kernel_rfl) rfl) (.inl (by kernel_rfl))) hK) ?_
          refine gr_onV (j := 2) (d := 41) (want := true) (u := .bool true) rfl (by kernel_rfl) (by kernel_rfl) (fun a V H => (H.rel 2 41 (by kernel_rfl) (by kernel_rfl) rfl)) (by kernel_rfl) (fun a V H K Q hK => op_quiet (quiet_load_row 29 (.tmp 3) gg (H.old 3 (by kernel_rfl) (by kernel_rfl)) 29 #[.int .u8 kg, .slice A1g n1g c1g, .slice A2g n2g c2g, .int .u8 og, .bool i1g, .bool p1g, .slice A3g n3g c3g, .bool i2g, .bool p2g, .slice A4g n4g c4g] _ (Kg.out V H.frame) Tryz.underlying29 rfl (by kernel_rfl) (by kernel_rfl)) hK) ?_
          refine gr_onV (j := 2) (d := 41) (want := true) (u := .bool true) rfl (by kernel_rfl) (by kernel_rfl) (fun a V H => (H.rel 2 41 (by kernel_rfl) (by kernel_rfl) rfl)) (by kernel_rfl) (fun a V H K Q hK => op_quiet (quiet_load_row 29 (.tmp 5) gu (H.old 5 (by kernel_rfl) (by kernel_rfl)) 29 #[.int .u8 ku, .slice A1u n1u c1u, .slice A2u n2u c2u, .int .u8 ou, .bool i1u, .bool p1u, .slice A3u n3u c3u, .bool i2u, .bool p2u, .slice A4u n4u c4u] _ (Ku.out V H.frame) Tryz.underlying29 rfl (by kernel_rfl) (by kernel_rfl)) hK) ?_
          refine gr_onV (j := 2) (d := 41) (want := true) (u := .bool true) rfl (by kernel_rfl) (by kernel_rfl) (fun a V H => (H.rel 2 41 (by kernel_rfl) (by kernel_rfl) rfl)) (by kernel_rfl) (fun a V H K Q hK => op_callK #[.tmp 42, .tmp 43] #[.agg #[.int .u8 kg, .slice A1g n1g c1g, .slice A2g n2g c2g, .int .u8 og, .bool i1g, .bool p1g, .slice A3g n3g c3g, .bool i2g, .bool p2g, .slice A4g n4g c4g], .agg #[.int .u8 ku, .slice A1u n1u c1u, .slice A2u n2u c2u, .int .u8 ou, .bool i1u, .bool p1u, .slice A3u n3u c3u, .bool i2u, .bool p2u, .slice A4u n4u c4u]] (by kernel_rfl) (by kernel_rfl) (by kernel_rfl) (map2 (H.rel 3 42 (by kernel_rfl) (by kernel_rfl) rfl) (H.rel 4 43 (by kernel_rfl) (by kernel_rfl) rfl)) (KS1.out V H.frame) (by kernel_rfl) hK) ?_
          refine gr_val rfl (by kernel_rfl) (fun a V H K Q hK => op_quiet (quiet_pickT (.tmp 41) (.tmp 44) (.const (.bool false)) (H.rel 2 41 (by kernel_rfl) (by kernel_rfl) rfl) (H.rel 5 44 (by kernel_rfl) (by kernel_rfl) rfl) (by kernel_rfl)) hK) ?_
          refine gr_val rfl (by kernel_rfl) (fun a V H K Q hK => op_quiet (quiet_move (.tmp 45) (H.rel 6 45 (by kernel_rfl) (by kernel_rfl) rfl) (.inl (by kernel_rfl))) hK) ?_
          refine gr_onV (j := 7) (d := 46) (want := true) (u := .bool true) rfl (by kernel_rfl) (by kernel_rfl) (fun a V H => (H.rel 7 46 (by kernel_rfl) (by kernel_rfl) rfl)) (by kernel_rfl) (fun a V H K Q hK => op_quiet (quiet_load_row 29 (.tmp 3) gg (H.old 3 (by kernel_rfl) (by kernel_rfl)) 29 #[.int .u8 kg, .slice A1g n1g c1g, .slice A2g n2g c2g, .int .u8 og, .bool i1g, .bool p1g, .slice A3g n3g c3g, .bool i2g, .bool p2g, .slice A4g n4g c4g] _ (Kg.out V H.frame) Tryz.underlying29 rfl (by kernel_rfl) (by kernel_rfl)) hK) ?_
          refine gr_onV (j := 7) (d := 46) (want := true) (u := .bool true) rfl (by kernel_rfl) (by kernel_rfl) (fun a V H => (H.rel 7 46 (by kernel_rfl) (by kernel_rfl) rfl)) (by kernel_rfl) (fun a V H K Q hK => op_callK #[.tmp 47] #[.agg #[.int .u8 kg, .slice A1g n1g c1g, .slice A2g n2g c2g, .int .u8 og, .bool i1g, .bool p1g, .slice A3g n3g c3g, .bool i2g, .bool p2g, .slice A4g n4g c4g]] (by kernel_rfl) (by kernel_rfl) (by kernel_rfl) (map1 (H.rel 8 47 (by kernel_rfl) (by kernel_rfl) rfl)) (KM.out V H.frame) (by kernel_rfl) hK) ?_
          refine gr_val rfl (by kernel_rfl) (fun a V H K Q hK => op_quiet (quiet_pickT (.tmp 46) (.tmp 48) (.const (.bool false)) (H.rel 7 46 (by kernel_rfl) (by kernel_rfl) rfl) (H.rel 9 48 (by kernel_rfl) (by kernel_rfl) rfl) (by kernel_rfl)) hK) ?_
          refine gr_val rfl (by kernel_rfl) (fun a V H K Q hK => op_quiet (quiet_move (.tmp 49) (H.rel 10 49 (by kernel_rfl) (by kernel_rfl) rfl) (.inl (by kernel_rfl))) hK) ?_
          refine gr_onV (j := 11) (d := 50) (want := true) (u := .bool true) rfl (by kernel_rfl) (by kernel_rfl) (fun a V H => (H.rel 11 50 (by kernel_rfl) (by kernel_rfl) rfl)) (by kernel_rfl) (fun a V H K Q hK => op_quiet (quiet_move (.tmp 8) (H.old 8 (by kernel_rfl) (by kernel_rfl)) (.inl (by kernel_rfl))) hK) ?_
          refine gr_onV (j := 11) (d := 50) (want := true) (u := .bool true) rfl (by kernel_rfl) (by kernel_rfl) (fun a V H => (H.rel 11 50 (by kernel_rfl) (by kernel_rfl) rfl)) (by kernel_rfl) (fun a V H K Q hK => op_quiet (quiet_eqlI (.tmp 51) (.const (.int .i64 0)) 0 0 true 35 35 Tryz.underlying35 rfl (H.rel 12 51 (by kernel_rfl) (by kernel_rfl) rfl) (show a.eval (.const (.int .i64 0)) = .int .i64 0 from rfl) (by kernel_rfl)) hK) ?_
          refine gr_val rfl (by kernel_rfl) (fun a V H K Q hK => op_quiet (quiet_pickT (.tmp 50) (.tmp 52) (.const (.bool false)) (H.rel 11 50 (by kernel_rfl) (by kernel_rfl) rfl) (H.rel 13 52 (by kernel_rfl) (by kernel_rfl) rfl) (by kernel_rfl)) hK) ?_
          refine gr_val rfl (by kernel_rfl) (fun a V H K Q hK => op_quiet (quiet_move (.tmp 53) (H.rel 14 53 (by kernel_rfl) (by kernel_rfl) rfl) (.inl (by kernel_rfl))) hK) ?_
          refine gr_onV (j := 15) (d := 54) (want := true) (u := .bool true) rfl (by kernel_rfl) (by kernel_rfl) (fun a V H => (H.rel 15 54 (by kernel_rfl) (by kernel_rfl) rfl)) (by kernel_rfl) (fun a V H K Q hK => op_quiet (quiet_load_row 34 (.tmp 7) gp (H.old 7 (by kernel_rfl) (by kernel_rfl)) 34 #[.bool lp, .bool hp, .slice A1p n1p c1p, .slice A2p n2p c2p, .slice A3p n3p c3p] _ (Kp.out V H.frame) Tryz.underlying34 rfl (by kernel_rfl) (by kernel_rfl)) hK) ?_
          refine gr_onV (j := 15) (d := 54) (want := true) (u := .bool true) rfl (by kernel_rfl) (by kernel_rfl) (fun a V H => (H.rel 15 54 (by kernel_rfl) (by kernel_rfl) rfl)) (by kernel_rfl) (fun a V H K Q hK => op_quiet (quiet_load_row 34 (.tmp 1) w.heap.size (H.old 1 (by kernel_rfl) (by kernel_rfl)) 34 #[.bool lv, .bool hv, .slice A1v n1v c1v, .slice A2v n2v c2v, .slice A3v n3v c3v] _ (KX7.out V H.frame) Tryz.underlying34 rfl (by kernel_rfl) (by kernel_rfl)) hK) ?_
          refine gr_onV (j := 15) (d := 54) (want := true) (u := .bool true) rfl (by kernel_rfl) (by kernel_rfl) (fun a V H => (H.rel 15 54 (by kernel_rfl) (by kernel_rfl) rfl)) (by kernel_rfl) (fun a V H K Q hK => op_callK #[.tmp 55, .tmp 56] #[.agg #[.bool lp, .bool hp, .slice A1p n1p c1p, .slice A2p n2p c2p, .slice A3p n3p c3p], .agg #[.bool lv, .bool hv, .slice A1v n1v c1v, .slice A2v n2v c2v, .slice A3v n3v c3v]] (by kernel_rfl) (by kernel_rfl) (by kernel_rfl) (map2 (H.rel 16 55 (by kernel_rfl) (by kernel_rfl) rfl) (H.rel 17 56 (by kernel_rfl) (by kernel_rfl) rfl)) (KS2.out V H.frame) (by kernel_rfl) hK) ?_
          refine gr_val rfl (by kernel_rfl) (fun a V H K Q hK => op_quiet (quiet_pickT (.tmp 54) (.tmp 57) (.const (.bool false)) (H.rel 15 54 (by kernel_rfl) (by kernel_rfl) rfl) (H.rel 18 57 (by kernel_rfl) (by kernel_rfl) rfl) (by kernel_rfl)) hK) ?_
          refine gr_val rfl (by kernel_rfl) (fun a V H K Q hK => op_quiet (quiet_move (.tmp 58) (H.rel 19 58 (by kernel_rfl) (by kernel_rfl) rfl) (.inl (by kernel_rfl))) hK) ?_
          refine gr_onV (j := 20) (d := 59) (want := true) (u := .bool true) rfl (by kernel_rfl) (by kernel_rfl) (fun a V H => (H.rel 20 59 (by kernel_rfl) (by kernel_rfl) rfl)) (by kernel_rfl) (fun a V H K Q hK => op_callK #[] #[] (by kernel_rfl) (by kernel_rfl) (by kernel_rfl) map0 (KA7.out V H.frame) (by kernel_rfl) hK) ?_
          refine gr_val rfl (by kernel_rfl) (fun a V H K Q hK => op_quiet (quiet_pickT (.tmp 59) (.tmp 60) (.const (.bool false)) (H.rel 20 59 (by kernel_rfl) (by kernel_rfl) rfl) (H.rel 21 60 (by kernel_rfl) (by kernel_rfl) rfl) (by kernel_rfl)) hK) ?_
          exact gr_nil
        case hfs =>
          intro x V hF
          have ev0 : x 0 = .int .i64 0 := hF.rel 0 _ rfl
          have ev1 : x 1 = .bool true := hF.rel 1 _ rfl
          have ev2 : x 2 = .bool true := hF.rel 2 _ rfl
          have ev3 : x 3 = .agg #[.int .u8 kg, .slice A1g n1g c1g, .slice A2g n2g c2g, .int .u8 og, .bool i1g, .bool p1g, .slice A3g n3g c3g, .bool i2g, .bool p2g, .slice A4g n4g c4g] := hF.rel 3 _ rfl
          have ev4 : x 4 = .agg #[.int .u8 ku, .slice A1u n1u c1u, .slice A2u n2u c2u, .int .u8 ou, .bool i1u, .bool p1u, .slice A3u n3u c3u, .bool i2u, .bool p2u, .slice A4u n4u c4u] := hF.rel 4 _ rfl
          have ev5 : x 5 = .bool true := hF.rel 5 _ rfl
          have ev6 : x 6 = .bool true := hF.rel 6 _ rfl
          have ev7 : x 7 = .bool true := hF.rel 7 _ rfl
          have ev8 : x 8 = .agg #[.int .u8 kg, .slice A1g n1g c1g, .slice A2g n2g c2g, .int .u8 og, .bool i1g, .bool p1g, .slice A3g n3g c3g, .bool i2g, .bool p2g, .slice A4g n4g c4g] := hF.rel 8 _ rfl
          have ev9 : x 9 = .bool true := hF.rel 9 _ rfl
          have ev10 : x 10 = .bool true := hF.rel 10 _ rfl
          have ev11 : x 11 = .bool true := hF.rel 11 _ rfl
          have ev12 : x 12 = .int .i64 0 := hF.rel 12 _ rfl
          have ev13 : x 13 = .bool true := hF.rel 13 _ rfl
          have ev14 : x 14 = .bool true := hF.rel 14 _ rfl
          have ev15 : x 15 = .bool true := hF.rel 15 _ rfl
          have ev16 : x 16 = .agg #[.bool lp, .bool hp, .slice A1p n1p c1p, .slice A2p n2p c2p, .slice A3p n3p c3p] := hF.rel 16 _ rfl
          have ev17 : x 17 = .agg #[.bool lv, .bool hv, .slice A1v n1v c1v, .slice A2v n2v c2v, .slice A3v n3v c3v] := hF.rel 17 _ rfl
          have ev18 : x 18 = .bool true := hF.rel 18 _ rfl
          have ev19 : x 19 = .bool true := hF.rel 19 _ rfl
          have ev20 : x 20 = .bool true := hF.rel 20 _ rfl
          have ev21 : x 21 = .bool true := hF.rel 21 _ rfl
          have ev22 : x 22 = .bool true := hF.rel 22 _ rfl
          have hbf := hF.frame
          clear hF
          simp only [Sch.finL, zA, zB, zC, ev0, ev1, ev2, ev3, ev4, ev5, ev6, ev7, ev8, ev9, ev10, ev11, ev12, ev13, ev14, ev15, ev16, ev17, ev18, ev19, ev20, ev21, ev22]
          clear ev0 ev1 ev2 ev3 ev4 ev5 ev6 ev7 ev8 ev9 ev10 ev11 ev12 ev13 ev14 ev15 ev16 ev17 ev18 ev19 ev20 ev21 ev22
          go_wp2_with fail
          go_ret
          exact ⟨rfl, next_below HB0.out (next_below hB7 hbf)⟩
end Go.Proofs.YtinlonpcakkfhaaGreatDoor
