/-
  The contract of the document's answer atom (package greffierref02): an atom with a hint at a place. Conditions: the bytes are at most 5000.
-/
import Derived.Test.YtaenahilnnlbfaaDoorRefRead2
set_option linter.unusedVariables false
namespace Go.Proofs.YtaenahilnnlbfaaDoor
open Go Go.Proofs Go.RowKit Sx Oct

theorem Box.set1 {w : World} {b : Nat} {v0 v1 v2 v3 v4 : Value} (h : Box w b v0 v1 v2 v3 v4) (x : Value) : Box (w.setCell ⟨b, 1, none⟩ x) b v0 x v2 v3 v4 := (Joins.block_setCell h x)

set_option maxHeartbeats 4000000 in
set_option maxRecDepth 100000 in
theorem refAtom_hint (A : Option Addr) (n c : Nat) (p : Nat) (nd : Nat) (b : List UInt8) (B : Nat) (w : World) (hr : Reads w B 1 A n (Lib.byteCells b)) (hBw : B ≤ w.heap.size) (hn : n ≤ 5000) (hc : n ≤ c) (s : List UInt8) (hs : b.drop p = 91 :: s) :
    Calls Tryd.prog 41 #[.slice A n c, .int .i64 p, .int .i64 nd] w fun e w' => RVal w B n e w' (hintRes (pHint s) nd) := by
  have hl : b.length = n := by have := hr.1; simpa [Lib.byteCells_length] using this
  have hsl : (91 :: s : List UInt8).length = n - p := by rw [← hs, List.length_drop, hl]
  have hsl' : s.length + 1 = n - p := by rw [← hsl]; simp
  have hpn : p < n := by omega
  have hz1 : (w.alloc (.cells #[.bool false, .bool false, .slice none 0 0, .slice none 0 0, .slice none 0 0, .int .i64 0, .int .i64 0, .int .i64 0] 55)).heap.size = w.heap.size + 1 := by simp
  have hz2 : ((w.alloc (.cells #[.bool false, .bool false, .slice none 0 0, .slice none 0 0, .slice none 0 0, .int .i64 0, .int .i64 0, .int .i64 0] 55)).alloc (.cells #[.bool false, .bool false, .slice none 0 0, .slice none 0 0, .slice none 0 0] 25)).heap.size = w.heap.size + 1 + 1 := by simp
  have b1 := below_new w (.cells #[.bool false, .bool false, .slice none 0 0, .slice none 0 0, .slice none 0 0, .int .i64 0, .int .i64 0, .int .i64 0] 55)
  have b2 := below_new (w.alloc (.cells #[.bool false, .bool false, .slice none 0 0, .slice none 0 0, .slice none 0 0, .int .i64 0, .int .i64 0, .int .i64 0] 55)) (.cells #[.bool false, .bool false, .slice none 0 0, .slice none 0 0, .slice none 0 0] 25)
  have hb0 := b1.trans (b2.mono (by omega))
  have X1 : Box8 ((w.alloc (.cells #[.bool false, .bool false, .slice none 0 0, .slice none 0 0, .slice none 0 0, .int .i64 0, .int .i64 0, .int .i64 0] 55)).alloc (.cells #[.bool false, .bool false, .slice none 0 0, .slice none 0 0, .slice none 0 0] 25)) w.heap.size (.bool false) (.bool false) (.slice none 0 0) (.slice none 0 0) (.slice none 0 0) (.int .i64 0) (.int .i64 0) (.int .i64 0) := below_at b2 (heap_alloc_new w _)
  have X2 : Box ((w.alloc (.cells #[.bool false, .bool false, .slice none 0 0, .slice none 0 0, .slice none 0 0, .int .i64 0, .int .i64 0, .int .i64 0] 55)).alloc (.cells #[.bool false, .bool false, .slice none 0 0, .slice none 0 0, .slice none 0 0] 25)) (w.heap.size + 1) (.bool false) (.bool false) (.slice none 0 0) (.slice none 0 0) (.slice none 0 0) := by
    have := heap_alloc_new (w.alloc (.cells #[.bool false, .bool false, .slice none 0 0, .slice none 0 0, .slice none 0 0, .int .i64 0, .int .i64 0, .int .i64 0] 55)) (.cells #[.bool false, .bool false, .slice none 0 0, .slice none 0 0, .slice none 0 0] 25)
    rw [hz1] at this
    exact this
  have hr2 := hr.keep (w' := ((w.alloc (.cells #[.bool false, .bool false, .slice none 0 0, .slice none 0 0, .slice none 0 0, .int .i64 0, .int .i64 0, .int .i64 0] 55)).alloc (.cells #[.bool false, .bool false, .slice none 0 0, .slice none 0 0, .slice none 0 0] 25))) fun q hq => hb0.cell (by omega)
  obtain ⟨ad, hA, hadB, hcell⟩ := at_drop hr2 hpn hs
  have hd1 : b.drop (p + 1) = s := by rw [← List.drop_drop, hs]; rfl
  have C := refBytes_any A n c (p + 1) b B ((w.alloc (.cells #[.bool false, .bool false, .slice none 0 0, .slice none 0 0, .slice none 0 0, .int .i64 0, .int .i64 0, .int .i64 0] 55)).alloc (.cells #[.bool false, .bool false, .slice none 0 0, .slice none 0 0, .slice none 0 0] 25)) hr2 (by omega) (by omega) hn hc s hd1
  have hp0 : (0 : Int) ≤ p := by omega
  have hpl : (p : Int) < n := by omega
  have hpc : ((p + 1 : Nat) : Int) = (p : Int) + 1 := by omega
  rw [hpc] at C
  subst hA
  have HC := Lib.hid C
  have HB := Lib.hid hb0
  have HX := Lib.hid (And.intro X1 X2)
  have HR := Lib.hid hr2
  have HR0 := Lib.hid hr
  have HL := Lib.hid hl
  have HD1 := Lib.hid hd1
  clear b1 b2 hs hl hr hr2 C hb0 X1 X2 hd1 hpc
  generalize hRR : hintRes (pHint s) nd = RR
  generalize hPB : pBytes s = PB at *
  cases PB with
  | err k rest =>
    obtain ⟨hk1, hk2, -⟩ := pBytes_kind hPB
    have hRR : RR = .err k rest := by rw [← hRR]; simp [hintRes, pHint, hPB]
    subst hRR
    clear hPB
    have hk0 : ¬ ((k : Int) = 0) := by omega
    go_enter Tryd.func41, Tryd.ntmps41
    go_wp2_with fail
    refine HC.out.mono ?_
    rintro e w3 ⟨A3, c3, rfl, hb3⟩
    obtain ⟨⟨d0, d1, d2, d3, d4, d5, d6, d7⟩, dz⟩ := (HX.out.1.old hb3).all
    have dz0 := dz 0
    have dz1 := dz 1
    have dz2 := dz 2
    have dz3 := dz 3
    have dz4 := dz 4
    have dz5 := dz 5
    have dz6 := dz 6
    have dz7 := dz 7
    have HF := Lib.hid (put8_below (HB.out.trans (hb3.mono HB.out.size)) (Nat.le_refl _) (.bool false) (.bool false) (.slice none 0 0) (.slice none 0 0) (.slice none 0 0) (.int .i64 (n - rest.length : Nat)) (.int .i64 0) (.int .i64 k))
    clear dz
    go_wp2_with fail
    exact bodyPost_ret (v := .agg #[.bool false, .bool false, .slice none 0 0, .slice none 0 0, .slice none 0 0, .int .i64 (n - rest.length : Nat), .int .i64 0, .int .i64 k]) (by simp [results, Tryd.results41, go_sem, d0, d1, d2, d3, d4, d5, d6, d7]) rfl ⟨hk1, hk2, rfl, HF.out⟩
  | ok hi rest =>
    obtain ⟨hs1, hhl⟩ := pBytes_sound hPB
    obtain ⟨hd2, hq1, hq2⟩ := drop_rest (by rw [HL.out]; omega) HD1.out hs1
    rw [HL.out] at hd2 hq1 hq2
    cases rest with
    | nil =>
      have hRR : RR = .err 2 [] := by rw [← hRR]; simp [hintRes, pHint, hPB]
      subst hRR
      have hpn0 : ((n - ([] : List UInt8).length : Nat) : Int) = n := by simp
      have HP := Lib.hid hpn0
      clear hPB hpn0 hd2 hq1 hq2 hs1
      go_enter Tryd.func41, Tryd.ntmps41
      go_wp2_with fail
      refine HC.out.mono ?_
      rintro e w3 ⟨A3, c3, rfl, hc3, hhi, hb3⟩
      rw [HP.out]
      obtain ⟨⟨d0, d1, d2, d3, d4, d5, d6, d7⟩, dz⟩ := (HX.out.1.old hb3).all
      have dz0 := dz 0
      have dz1 := dz 1
      have dz2 := dz 2
      have dz3 := dz 3
      have dz4 := dz 4
      have dz5 := dz 5
      have dz6 := dz 6
      have dz7 := dz 7
      have HF := Lib.hid (put8_below (HB.out.trans (hb3.mono HB.out.size)) (Nat.le_refl _) (.bool false) (.bool false) (.slice none 0 0) (.slice none 0 0) (.slice none 0 0) (.int .i64 n) (.int .i64 0) (.int .i64 2))
      clear dz
      go_wp2_with fail
      exact bodyPost_ret (v := .agg #[.bool false, .bool false, .slice none 0 0, .slice none 0 0, .slice none 0 0, .int .i64 n, .int .i64 0, .int .i64 2]) (by simp [results, Tryd.results41, go_sem, d0, d1, d2, d3, d4, d5, d6, d7]) rfl ⟨by omega, by omega, rfl, HF.out⟩
    | cons c0 r2 =>
      have hlr : (c0 :: r2).length = r2.length + 1 := by simp
      have hle : r2.length + 1 ≤ n := by have := congrArg List.length hs1; rw [List.length_append, hlr] at this; omega
      obtain ⟨q, hq⟩ : ∃ q, q = n - (c0 :: r2).length := ⟨_, rfl⟩
      have hqn : q + r2.length + 1 = n := by omega
      rw [← hq] at hd2
      have HQ := Lib.hid hq
      have hq0 : (0 : Int) ≤ q := by omega
      have hqlt : (q : Int) < n := by omega
      have hqge : ¬ (n : Int) ≤ q := by omega
      have HD2 := Lib.hid hd2
      clear hq hd2 hq1 hq2 hs1
      by_cases hc0 : c0 = 93
      · subst hc0
        have hd3 : b.drop (q + 1) = r2 := by rw [← List.drop_drop, HD2.out]; rfl
        generalize hPB2 : pBytes r2 = PB2
        have hhi4 := hhl
        have hqc : ((q + 1 : Nat) : Int) = (q : Int) + 1 := by omega
        have C2 := Lib.hid (fun W hW hBW => refBytes_any (some ad) n c (q + 1) b B W hW hBW (by omega) hn hc r2 hd3)
        rw [hPB2, hqc] at C2
        have HST := Lib.hid (fun (w3 : World) (A3 : Option Addr) (c3 : Nat) (hb3 : Below ((w.alloc (.cells #[.bool false, .bool false, .slice none 0 0, .slice none 0 0, .slice none 0 0, .int .i64 0, .int .i64 0, .int .i64 0] 55)).alloc (.cells #[.bool false, .bool false, .slice none 0 0, .slice none 0 0, .slice none 0 0] 25)).heap.size ((w.alloc (.cells #[.bool false, .bool false, .slice none 0 0, .slice none 0 0, .slice none 0 0, .int .i64 0, .int .i64 0, .int .i64 0] 55)).alloc (.cells #[.bool false, .bool false, .slice none 0 0, .slice none 0 0, .slice none 0 0] 25)) w3) => (by
          have hX1 := (HX.out.1.old hb3)
          have hX2 := (HX.out.2.old hb3)
          have hbw := HB.out.trans (hb3.mono HB.out.size)
          have hX1' : Box8 ((w3.setCell ⟨w.heap.size + 1, 1, none⟩ (.bool true)).setCell ⟨w.heap.size + 1, 2, none⟩ (.slice A3 hi.length c3)) w.heap.size (.bool false) (.bool false) (.slice none 0 0) (.slice none 0 0) (.slice none 0 0) (.int .i64 0) (.int .i64 0) (.int .i64 0) :=
            (Below.heap_setCell _ ⟨w.heap.size + 1, 2, none⟩ _ w.heap.size (by show w.heap.size ≠ w.heap.size + 1; omega)).trans ((Below.heap_setCell _ ⟨w.heap.size + 1, 1, none⟩ _ w.heap.size (by show w.heap.size ≠ w.heap.size + 1; omega)).trans hX1)
          have hX2' : Box ((w3.setCell ⟨w.heap.size + 1, 1, none⟩ (.bool true)).setCell ⟨w.heap.size + 1, 2, none⟩ (.slice A3 hi.length c3)) (w.heap.size + 1) (.bool false) (.bool true) (.slice A3 hi.length c3) (.slice none 0 0) (.slice none 0 0) := Box.set2 (Box.set1 hX2 _) _
          have hbw' := (hbw.setCell (p := ⟨w.heap.size + 1, 1, none⟩) (by show w.heap.size ≤ w.heap.size + 1; omega) (.bool true)).setCell (p := ⟨w.heap.size + 1, 2, none⟩) (by show w.heap.size ≤ w.heap.size + 1; omega) (.slice A3 hi.length c3)
          have hr3 := HR0.out.keep (w' := ((w3.setCell ⟨w.heap.size + 1, 1, none⟩ (.bool true)).setCell ⟨w.heap.size + 1, 2, none⟩ (.slice A3 hi.length c3))) fun q hq => hbw'.cell (by omega)
          exact And.intro hX1' (And.intro hX2' (And.intro hbw' hr3)) :
          Box8 ((w3.setCell ⟨w.heap.size + 1, 1, none⟩ (.bool true)).setCell ⟨w.heap.size + 1, 2, none⟩ (.slice A3 hi.length c3)) w.heap.size (.bool false) (.bool false) (.slice none 0 0) (.slice none 0 0) (.slice none 0 0) (.int .i64 0) (.int .i64 0) (.int .i64 0) ∧ Box ((w3.setCell ⟨w.heap.size + 1, 1, none⟩ (.bool true)).setCell ⟨w.heap.size + 1, 2, none⟩ (.slice A3 hi.length c3)) (w.heap.size + 1) (.bool false) (.bool true) (.slice A3 hi.length c3) (.slice none 0 0) (.slice none 0 0) ∧
          Below w.heap.size w ((w3.setCell ⟨w.heap.size + 1, 1, none⟩ (.bool true)).setCell ⟨w.heap.size + 1, 2, none⟩ (.slice A3 hi.length c3)) ∧ Reads ((w3.setCell ⟨w.heap.size + 1, 1, none⟩ (.bool true)).setCell ⟨w.heap.size + 1, 2, none⟩ (.slice A3 hi.length c3)) B 1 (some ad) n (Lib.byteCells b)))
        cases PB2 with
        | err k rest =>
          obtain ⟨hk1, hk2, -⟩ := pBytes_kind hPB2
          have hRR : RR = .err k rest := by rw [← hRR]; simp [hintRes, pHint, hPB, hPB2]
          subst hRR
          clear hPB hPB2 hd3
          have hk0 : ¬ ((k : Int) = 0) := by omega
          go_enter Tryd.func41, Tryd.ntmps41
          go_wp2_with fail
          refine HC.out.mono ?_
          rintro e w3 ⟨A3, c3, rfl, hc3, hhi, hb3⟩
          rw [← HQ.out]
          obtain ⟨ad', hA', -, hcell2⟩ := at_drop (HR.out.keep fun q' hq' => hb3.cell (by omega)) (p := q) (by omega) HD2.out
          injection hA' with hA'
          subst hA'
          obtain ⟨⟨f0, f1, f2, f3, f4⟩, fz⟩ := (HX.out.2.old hb3).all
          have fz1 := fz 1
          have fz2 := fz 2
          obtain ⟨Y1, Y2, Y3, Y4⟩ := HST.out w3 A3 c3 hb3
          have hzz : B ≤ ((w3.setCell ⟨w.heap.size + 1, 1, none⟩ (.bool true)).setCell ⟨w.heap.size + 1, 2, none⟩ (.slice A3 hi.length c3)).heap.size := by have := Y3.size; omega
          have C3 := Lib.hid (C2.out _ Y4 hzz)
          have HY := Lib.hid (And.intro Y1 (And.intro Y2 Y3))
          clear fz hhi hb3 Y1 Y2 Y3 Y4 hzz
          go_wp2_with fail
          refine C3.out.mono ?_
          rintro e w5 ⟨A5, c5, rfl, hb5⟩
          clear f0 f1 f2 f3 f4 fz1 fz2 hcell2
          obtain ⟨⟨d0, d1, d2, d3, d4, d5, d6, d7⟩, dz⟩ := (HY.out.1.old hb5).all
          have dz0 := dz 0
          have dz1 := dz 1
          have dz2 := dz 2
          have dz3 := dz 3
          have dz4 := dz 4
          have dz5 := dz 5
          have dz6 := dz 6
          have dz7 := dz 7
          have HF := Lib.hid (put8_below (HY.out.2.2.trans (hb5.mono HY.out.2.2.size)) (Nat.le_refl _) (.bool false) (.bool false) (.slice none 0 0) (.slice none 0 0) (.slice none 0 0) (.int .i64 (n - rest.length : Nat)) (.int .i64 0) (.int .i64 k))
          clear dz hb5
          go_wp2_with fail
          exact bodyPost_ret (v := .agg #[.bool false, .bool false, .slice none 0 0, .slice none 0 0, .slice none 0 0, .int .i64 (n - rest.length : Nat), .int .i64 0, .int .i64 k]) (by simp [results, Tryd.results41, go_sem, d0, d1, d2, d3, d4, d5, d6, d7]) rfl ⟨hk1, hk2, rfl, HF.out⟩
        | ok da rest =>
          obtain ⟨-, hda⟩ := pBytes_sound hPB2
          have hRR : RR = .ok (.mk false true hi da [], nd) rest := by rw [← hRR]; simp [hintRes, pHint, hPB, hPB2]
          subst hRR
          clear hPB hPB2 hd3
          go_enter Tryd.func41, Tryd.ntmps41
          go_wp2_with fail
          refine HC.out.mono ?_
          rintro e w3 ⟨A3, c3, rfl, hc3, hhi, hb3⟩
          rw [← HQ.out]
          obtain ⟨ad', hA', -, hcell2⟩ := at_drop (HR.out.keep fun q' hq' => hb3.cell (by omega)) (p := q) (by omega) HD2.out
          injection hA' with hA'
          subst hA'
          obtain ⟨⟨f0, f1, f2, f3, f4⟩, fz⟩ := (HX.out.2.old hb3).all
          have fz1 := fz 1
          have fz2 := fz 2
          obtain ⟨Y1, Y2, Y3, Y4⟩ := HST.out w3 A3 c3 hb3
          have hzz : B ≤ ((w3.setCell ⟨w.heap.size + 1, 1, none⟩ (.bool true)).setCell ⟨w.heap.size + 1, 2, none⟩ (.slice A3 hi.length c3)).heap.size := by have := Y3.size; omega
          have hhi2 := (hhi.far (p := ⟨w.heap.size + 1, 1, none⟩) (fun k hk => by show k ≠ w.heap.size + 1; omega) (.bool true)).far (p := ⟨w.heap.size + 1, 2, none⟩) (fun k hk => by show k ≠ w.heap.size + 1; omega) (.slice A3 hi.length c3)
          have C3 := Lib.hid (C2.out _ Y4 hzz)
          have HY := Lib.hid (And.intro Y1 (And.intro Y2 Y3))
          have HHI := Lib.hid hhi2
          clear fz hhi hhi2 hb3 Y1 Y2 Y3 Y4
          go_wp2_with fail
          refine C3.out.mono ?_
          rintro e w5 ⟨A5, c5, rfl, hc5, hda5, hb5⟩
          clear f0 f1 f2 f3 f4 fz1 fz2 hcell2
          obtain ⟨⟨d0, d1, d2, d3, d4, d5, d6, d7⟩, dz⟩ := (HY.out.1.old hb5).all
          have dz0 := dz 0
          have dz1 := dz 1
          have dz2 := dz 2
          have dz3 := dz 3
          have dz4 := dz 4
          have dz5 := dz 5
          have dz6 := dz 6
          have dz7 := dz 7
          obtain ⟨⟨f0, f1, f2, f3, f4⟩, fz⟩ := (HY.out.2.1.old hb5).all
          have fz3 := fz 3
          have hhi5 := RIn.keep HHI.out (fun q hq => hb5.cell (Nat.lt_of_lt_of_le hq hzz))
          have hfar : ∀ q : Addr, q.block < B → (put8 (w5.setCell ⟨w.heap.size + 1, 3, none⟩ (.slice A5 da.length c5)) w.heap.size (.bool false) (.bool true) (.slice A3 hi.length c3) (.slice A5 da.length c5) (.slice none 0 0) (.int .i64 (n - rest.length : Nat)) (.int .i64 nd) (.int .i64 0)).cell? q = w5.cell? q := fun q hq => by
            rw [put8_far q (by omega), World.cell?_setCell_other _ _ _ _ (fun e => by have h := congrArg Addr.block e; simp at h; omega)]
          have hiF : SIn (put8 (w5.setCell ⟨w.heap.size + 1, 3, none⟩ (.slice A5 da.length c5)) w.heap.size (.bool false) (.bool true) (.slice A3 hi.length c3) (.slice A5 da.length c5) (.slice none 0 0) (.int .i64 (n - rest.length : Nat)) (.int .i64 nd) (.int .i64 0)) (fun k => k < B ∨ w.heap.size ≤ k) (.mk false true hi da []) [.bool false, .bool true, .slice A3 hi.length c3, .slice A5 da.length c5, .slice none 0 0] :=
            .mk (xs := []) ((hhi5.keep fun q hq => hfar q hq).more fun k hk => .inl hk) ⟨hc3, by omega⟩ ((hda5.keep fun q hq => hfar q hq).more fun k hk => .inl hk) ⟨hc5, by omega⟩ RIn.none_ ⟨Nat.le_refl _, by omega⟩ rfl (fun i t hit => by simp at hit)
          have hbF := put8_below (((HY.out.2.2.trans (hb5.mono HY.out.2.2.size)).setCell (p := ⟨w.heap.size + 1, 3, none⟩) (by show w.heap.size ≤ w.heap.size + 1; omega) (.slice A5 da.length c5))) (Nat.le_refl _) (.bool false) (.bool true) (.slice A3 hi.length c3) (.slice A5 da.length c5) (.slice none 0 0) (.int .i64 (n - rest.length : Nat)) (.int .i64 nd) (.int .i64 0)
          have HF := Lib.hid (And.intro hiF hbF)
          clear dz fz hb5 hda5 hfar hiF hbF hhi5
          go_wp2_with fail
          exact bodyPost_ret (v := .agg #[.bool false, .bool true, .slice A3 hi.length c3, .slice A5 da.length c5, .slice none 0 0, .int .i64 (n - rest.length : Nat), .int .i64 nd, .int .i64 0]) (by simp [results, Tryd.results41, go_sem, d0, d1, d2, d3, d4, d5, d6, d7]) rfl ⟨_, _, _, _, _, rfl, HF.out⟩
      · have hRR : RR = .err 3 (c0 :: r2) := by rw [← hRR]; simp [hintRes, pHint, hPB, hc0]
        subst hRR
        clear hPB
        have hne : ((c0.toNat : Int) == 93) = false := by
          rw [beq_eq_false_iff_ne]
          intro e
          exact hc0 (UInt8.toNat_inj.1 (by show c0.toNat = 93; omega))
        go_enter Tryd.func41, Tryd.ntmps41
        go_wp2_with fail
        refine HC.out.mono ?_
        rintro e w3 ⟨A3, c3, rfl, hc3, hhi, hb3⟩
        rw [← HQ.out]
        obtain ⟨ad', hA', -, hcell2⟩ := at_drop (HR.out.keep fun q' hq' => hb3.cell (by omega)) (p := q) (by omega) HD2.out
        injection hA' with hA'
        subst hA'
        obtain ⟨⟨d0, d1, d2, d3, d4, d5, d6, d7⟩, dz⟩ := (HX.out.1.old hb3).all
        have dz0 := dz 0
        have dz1 := dz 1
        have dz2 := dz 2
        have dz3 := dz 3
        have dz4 := dz 4
        have dz5 := dz 5
        have dz6 := dz 6
        have dz7 := dz 7
        have HF := Lib.hid (put8_below (HB.out.trans (hb3.mono HB.out.size)) (Nat.le_refl _) (.bool false) (.bool false) (.slice none 0 0) (.slice none 0 0) (.slice none 0 0) (.int .i64 (q : Nat)) (.int .i64 0) (.int .i64 3))
        clear dz
        go_wp2_with fail
        exact bodyPost_ret (v := .agg #[.bool false, .bool false, .slice none 0 0, .slice none 0 0, .slice none 0 0, .int .i64 (q : Nat), .int .i64 0, .int .i64 3]) (by simp [results, Tryd.results41, go_sem, d0, d1, d2, d3, d4, d5, d6, d7]) rfl ⟨by omega, by omega, by rw [← HQ.out]; rfl, HF.out⟩
end Go.Proofs.YtaenahilnnlbfaaDoor
