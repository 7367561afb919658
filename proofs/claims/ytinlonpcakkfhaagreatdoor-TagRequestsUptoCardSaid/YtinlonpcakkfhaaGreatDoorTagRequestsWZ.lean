/-
  The walk of the law TagRequests over contracts of the program's package tag. Conditions: those contracts; at most 2^40 nodes and bytes.
-/
import Derived.Test.YtinlonpcakkfhaaGreatDoorM6
set_option linter.unusedVariables false
set_option linter.unusedSimpArgs false
open Go.Lib (hid)
open Go.Proofs.YtinlonpcakkfhaaGreatDoor (zA zB zC zD zE zF)
set_option maxRecDepth 100000
namespace Go.Proofs.YtinlonpcakkfhaaGreatDoor
open Go Go.Proofs Go.RowKit Sx _root_.Ord11 Go.Proofs.YtinlonpcakkfhaaGreatDoor.Ord11 _root_.Tag12 Sch
set_option maxHeartbeats 8000000 in
theorem trequests_walk {Q : World → Prop} (H : TagOk Q) (v : SX) (w : World) (S : Nat → Prop) (cs : List Value) (hQ : Q w) (hs : SIn w S v cs) (hz : SmallX v) :
    Calls Tryz.prog 5 #[.agg cs.toArray] w fun e w' => e = .returned (.bool true) ∧ Below w.heap.size w w' := by
  obtain ⟨lv, hv, A1v, n1v, c1v, A2v, n2v, c2v, A3v, n3v, c3v, rfl⟩ := hs.lets
  obtain ⟨w0, hw0⟩ : ∃ w0, w0 = (w.alloc (.cells #[.bool lv, .bool hv, .slice A1v n1v c1v, .slice A2v n2v c2v, .slice A3v n3v c3v] 34)) := ⟨_, rfl⟩
  have HB0 : Hid (Below w.heap.size w w0) := by
    show Below _ _ _
    rw [hw0]
    exact below_new _ _
  have B0 : Blk w0 w.heap.size 34 #[.bool lv, .bool hv, .slice A1v n1v c1v, .slice A2v n2v c2v, .slice A3v n3v c3v] := by
    rw [hw0]
    exact Blk.new w 34 #[.bool lv, .bool hv, .slice A1v n1v c1v, .slice A2v n2v c2v, .slice A3v n3v c3v]
  have KX0 : Hid (∀ W, Below w0.heap.size w0 W → Blk W w.heap.size 34 #[.bool lv, .bool hv, .slice A1v n1v c1v, .slice A2v n2v c2v, .slice A3v n3v c3v]) := fun W hW => B0.old hW
  have HR : Below w0.heap.size w0 w0 := Below.refl _ _
  have KA : Hid (∀ W, Below w0.heap.size w0 W → Calls Tryz.prog 9 #[] W fun e w' => e = .returned (.bool true) ∧ Below W.heap.size W w') := fun W hW => awake12_any H W (H.old hQ (next_below HB0.out hW))
  have KG1 : Hid (∀ W, Below w0.heap.size w0 W → Calls Tryz.prog 17 #[.agg #[.bool lv, .bool hv, .slice A1v n1v c1v, .slice A2v n2v c2v, .slice A3v n3v c3v], .int .i64 0] W (SomeBool W)) := fun W hW => great_any v W S _ 0 (hs.old (next_below HB0.out hW)) (by omega) (by omega)
  have HSV : Hid (∀ W, Below w0.heap.size w0 W → SIn W S v [.bool lv, .bool hv, .slice A1v n1v c1v, .slice A2v n2v c2v, .slice A3v n3v c3v] ∧ Q W) := fun W hW => ⟨hs.old (next_below HB0.out hW), H.old hQ (next_below HB0.out hW)⟩
  have HO := hid H
  have HZ := hid hz
  clear hs hz
  go_enter Tryz.func5, Tryz.ntmps5
  go_upto_region 1 with fail
  rw [← hw0]
  clear hw0
  have x_0 := B0.cell 0
  have x_1 := B0.cell 1
  have x_2 := B0.cell 2
  have x_3 := B0.cell 3
  have x_4 := B0.cell 4
  go_cut [7] (fun p wx => ∃ b : Bool, p = .bool b ∧ Below w0.heap.size w0 wx)
  case first =>
    go_wp2_with (go_at_call 17; (refine (KG1.out _ HR).mono ?_); rintro e w1 ⟨b, rfl, hb1⟩)
    all_goals go_meet
    all_goals exact ⟨_, rfl, hb1⟩
  case rest =>
    obtain ⟨b, rfl, hb⟩ := hcut
    clear x_0 x_1 x_2 x_3 x_4
    have BX := KX0.out _ hb
    have x_0 := BX.cell 0
    have x_1 := BX.cell 1
    have x_2 := BX.cell 2
    have x_3 := BX.cell 3
    have x_4 := BX.cell 4
    cases b with
    | true =>
      go_wp2_with (go_at_call 9; (refine (KA.out _ hb).mono ?_); rintro e wA ⟨rfl, hbA⟩)
      go_ret
      exact ⟨rfl, next_below HB0.out (next_below hb hbA)⟩
    | false =>
      obtain ⟨r, hr⟩ : ∃ r, r = (Sx.may v && Tag12.concrete v) := ⟨_, rfl⟩
      have KR1 : Hid (∀ W, Below w0.heap.size w0 W → Calls Tryz.prog 19 #[.agg #[.bool lv, .bool hv, .slice A1v n1v c1v, .slice A2v n2v c2v, .slice A3v n3v c3v]] W fun e w' => e = .returned (.bool r) ∧ Below W.heap.size W w') := fun W hW => by rw [hr]; exact HO.out.request v W S _ (HSV.out W hW).2 (HSV.out W hW).1 HZ.out
      have KR2 : Hid (∀ W, Below w0.heap.size w0 W → Calls Tryz.prog 20 #[.agg #[.bool lv, .bool hv, .slice A1v n1v c1v, .slice A2v n2v c2v, .slice A3v n3v c3v]] W fun e w' => e = .returned (.bool r) ∧ Below W.heap.size W w') := fun W hW => by rw [hr]; exact refRequest_any v W S _ (HSV.out W hW).1 HZ.out.1 HZ.out.2
      obtain ⟨gt, hgt⟩ : ∃ t, t = (getR v).1 := ⟨_, rfl⟩
      obtain ⟨ge, hge⟩ : ∃ t, t = (getR v).2 := ⟨_, rfl⟩
      have KGt : Hid (∀ W, Below w0.heap.size w0 W → Calls Tryz.prog 14 #[.agg #[.bool lv, .bool hv, .slice A1v n1v c1v, .slice A2v n2v c2v, .slice A3v n3v c3v]] W fun e w' => ∃ v0 v1 v2 v3 v4 v5 v6 v7 v8 v9, e = .returned (.tuple #[.agg #[v0, v1, v2, v3, v4, v5, v6, v7, v8, v9], .int .i64 ge]) ∧ TIn w' (fun b => S b ∨ W.heap.size ≤ b) gt [v0, v1, v2, v3, v4, v5, v6, v7, v8, v9] ∧ Below W.heap.size W w') := fun W hW => by rw [hgt, hge]; exact HO.out.get v W S _ (HSV.out W hW).2 (HSV.out W hW).1 HZ.out
      have HKK : Hid (r = true → ge = 0 ∧ ∃ k d ts, gt = .mk k d zeroR ts ∧ (k = 2 ∨ k = 3)) := by
        intro h
        rw [hr, Bool.and_eq_true] at h
        obtain ⟨k, d, ts, h1, h2⟩ := get_concrete (C := ordC) v h.2
        have h3 : getR v = (.mk k d zeroR ts, 0) := by unfold getR getA; rw [if_pos h.1, h1]; rfl
        rw [hgt, hge, h3]
        exact ⟨rfl, k, d, ts, rfl, h2⟩
      clear hr hgt hge
      go_upto_region 4 with (go_at_call 19; (refine (KR1.out _ hb).mono ?_); rintro e w1 ⟨rfl, hb1⟩)
      have hB1 := next_below hb hb1
      clear x_0 x_1 x_2 x_3 x_4
      have BX1 := KX0.out _ hB1
      have x_0 := BX1.cell 0
      have x_1 := BX1.cell 1
      have x_2 := BX1.cell 2
      have x_3 := BX1.cell 3
      have x_4 := BX1.cell 4
      go_upto_region 5 with (go_at_call 14; (refine (KGt.out _ hB1).mono ?_); rintro e w2 ⟨v0, v1, v2, v3, v4, v5, v6, v7, v8, v9, rfl, hing, hb2⟩; obtain ⟨kg, og, i1g, p1g, i2g, p2g, A1g, n1g, c1g, A2g, n2g, c2g, A3g, n3g, c3g, A4g, n4g, c4g, ec⟩ := hing.lets; simp only [List.cons.injEq, and_true] at ec; obtain ⟨rfl, rfl, rfl, rfl, rfl, rfl, rfl, rfl, rfl, rfl⟩ := ec)
      have hbn := below_new w2 (.cells #[.int .u8 kg, .slice A1g n1g c1g, .slice A2g n2g c2g, .int .u8 og, .bool i1g, .bool p1g, .slice A3g n3g c3g, .bool i2g, .bool p2g, .slice A4g n4g c4g] 29)
      have hB3 := next_below (next_below hB1 hb2) hbn
      have Bg : Blk (w2.alloc (.cells #[.int .u8 kg, .slice A1g n1g c1g, .slice A2g n2g c2g, .int .u8 og, .bool i1g, .bool p1g, .slice A3g n3g c3g, .bool i2g, .bool p2g, .slice A4g n4g c4g] 29)) w2.heap.size 29 #[.int .u8 kg, .slice A1g n1g c1g, .slice A2g n2g c2g, .int .u8 og, .bool i1g, .bool p1g, .slice A3g n3g c3g, .bool i2g, .bool p2g, .slice A4g n4g c4g] := Blk.new _ _ _
      have HIg := hid (hing.old hbn)
      have hSg := next_below hb2 hbn
      clear hing hb2 hbn
      generalize hgg : w2.heap.size = gg at Bg ⊢
      generalize w2.alloc (.cells #[.int .u8 kg, .slice A1g n1g c1g, .slice A2g n2g c2g, .int .u8 og, .bool i1g, .bool p1g, .slice A3g n3g c3g, .bool i2g, .bool p2g, .slice A4g n4g c4g] 29) = W3 at *
      clear hgg
      have Kg : Hid (∀ W, Below W3.heap.size W3 W → Blk W gg 29 #[.int .u8 kg, .slice A1g n1g c1g, .slice A2g n2g c2g, .int .u8 og, .bool i1g, .bool p1g, .slice A3g n3g c3g, .bool i2g, .bool p2g, .slice A4g n4g c4g]) := fun W hW => Bg.old hW
      clear x_0 x_1 x_2 x_3 x_4
      have BX3 := KX0.out _ hB3
      have x_0 := BX3.cell 0
      have x_1 := BX3.cell 1
      have x_2 := BX3.cell 2
      have x_3 := BX3.cell 3
      have x_4 := BX3.cell 4
      cases r with
      | false =>
        go_wp2_with first | (go_at_call 20; (refine (KR2.out _ hB3).mono ?_); rintro e w4 ⟨rfl, hb4⟩; have hB4 := next_below hB3 hb4) | (go_at_call 9; (refine (KA.out _ hB4).mono ?_); rintro e wA ⟨rfl, hbA⟩)
        go_ret
        exact ⟨rfl, next_below HB0.out (next_below hB4 hbA)⟩
      | true =>
        obtain ⟨rfl, kk, dd, ts, rfl, hk⟩ := HKK.out rfl
        have hkg : kg = kk := by
          obtain ⟨⟨h, -⟩, -⟩ := HIg.out.inv
          injection h with _ h
          omega
        subst hkg
        rcases hk with rfl | rfl
        all_goals
          go_wp2_with first | (go_at_call 20; (refine (KR2.out _ hB3).mono ?_); rintro e w4 ⟨rfl, hb4⟩; have hB4 := next_below hB3 hb4; have BG := Kg.out _ hb4; have y_0 := BG.cell 0) | (go_at_call 9; (refine (KA.out _ hB4).mono ?_); rintro e wA ⟨rfl, hbA⟩)
          go_ret
          exact ⟨rfl, next_below HB0.out (next_below hB4 hbA)⟩
end Go.Proofs.YtinlonpcakkfhaaGreatDoor
