/-
  Several texts in one: TgP3, TgP4, TgP5, TgP6, TgP7, TgP8, TgP9, TgPA, TgPB, TgPC, TgPD, TgPE, TagOkP. Conditions: those that each theorem states.
-/
import Derived.Test.YtinlonpcakkfhaaGreatDoorM4
import Derived.Defers
import Derived.Recover
import Derived.RegionDies
set_option linter.unusedVariables false
set_option linter.unusedSimpArgs false
open Go.Lib (hid)
open Go.Proofs.YtinlonpcakkfhaaGreatDoor (zA zB zC zD zE zF)

section
set_option maxRecDepth 100000
namespace Go.Proofs.YtinlonpcakkfhaaGreatDoor
open Go Go.Proofs Go.RowKit Sx _root_.Ord11 Go.Proofs.YtinlonpcakkfhaaGreatDoor.Ord11 _root_.Tag12
def starB (t : TG) : Bool := match t with | .mk k d _ _ => decide (k = 2) && (d == star)
theorem head_star (t : TG) (r : List TG) : headStar (t :: r) = starB t := by cases t; rfl
set_option maxHeartbeats 4000000 in
theorem pStar_any (t : TG) (w : World) (S : Nat → Prop) (cs : List Value) (hs : TIn w S t cs) :
    Calls Tryz.prog 74 #[.agg cs.toArray] w fun e w' => e = .returned (.bool (starB t)) ∧ Below w.heap.size w w' := by
  obtain ⟨k, d, ⟨o, ⟨i1, p1, l1⟩, ⟨i2, p2, l2⟩⟩, ks, A1, n1, c1, A2, n2, c2, A3, n3, c3, A4, n4, c4, rfl, rfl⟩ := hs.form_
  dsimp only at hs ⊢
  obtain ⟨w0, hw0⟩ : ∃ w0, w0 = (w.alloc (.cells #[.int .u8 k, .slice A1 n1 c1, .slice A2 n2 c2, .int .u8 o, .bool i1, .bool p1, .slice A3 n3 c3, .bool i2, .bool p2, .slice A4 n4 c4] 29)) := ⟨_, rfl⟩
  have HB0 : Hid (Below w.heap.size w w0) := by
    show Below _ _ _
    rw [hw0]
    exact (Below.refl w.heap.size w).alloc (Nat.le_refl _) _
  have B0 : Blk w0 w.heap.size 29 #[.int .u8 k, .slice A1 n1 c1, .slice A2 n2 c2, .int .u8 o, .bool i1, .bool p1, .slice A3 n3 c3, .bool i2, .bool p2, .slice A4 n4 c4] := by
    rw [hw0]
    exact Blk.new w 29 #[.int .u8 k, .slice A1 n1 c1, .slice A2 n2 c2, .int .u8 o, .bool i1, .bool p1, .slice A3 n3 c3, .bool i2, .bool p2, .slice A4 n4 c4]
  have X0 : Hid (∀ W, Below w0.heap.size w0 W → ∀ kx u, (#[.int .u8 k, .slice A1 n1 c1, .slice A2 n2 c2, .int .u8 o, .bool i1, .bool p1, .slice A3 n3 c3, .bool i2, .bool p2, .slice A4 n4 c4] : Array Value)[kx]? = some u → W.cell? ⟨w.heap.size, kx, none⟩ = some u) := fun W hW kx u hk => cell_below hW ((B0.cell kx).trans hk) B0.lt
  have HR : Below w0.heap.size w0 w0 := Below.refl _ _
  clear B0
  obtain ⟨_, _, ⟨r1, _, _⟩, _⟩ := (hs.old HB0.out).inv
  have k1 := run_back (r1.reads (by omega)) (c := c1)
  have s1 : (⟨d.toArray⟩ : ByteArray).toList = d := bT_list d
  generalize (⟨d.toArray⟩ : ByteArray) = D at k1 s1
  have HX : Hid (starB (.mk k d ⟨o, ⟨i1, p1, l1⟩, ⟨i2, p2, l2⟩⟩ ks) = (decide (k = 2) && (D.toList == [42]))) := by show _ = _; rw [s1]; rfl
  clear hs r1 s1
  go_enter Tryz.func74, Tryz.ntmps74
  go_upto_region 1 with fail
  rw [← hw0]
  clear hw0
  have x0_0 := X0.out _ HR 0 _ rfl
  have x0_1 := X0.out _ HR 1 _ rfl
  have x0_2 := X0.out _ HR 2 _ rfl
  have x0_3 := X0.out _ HR 3 _ rfl
  have x0_4 := X0.out _ HR 4 _ rfl
  have x0_5 := X0.out _ HR 5 _ rfl
  have x0_6 := X0.out _ HR 6 _ rfl
  have x0_7 := X0.out _ HR 7 _ rfl
  have x0_8 := X0.out _ HR 8 _ rfl
  have x0_9 := X0.out _ HR 9 _ rfl
  by_cases q : k = 2
  · subst q
    go_wp2_with fail
    go_ret
    exact ⟨by rw [HX.out]; simp, HB0.out⟩
  · have qB : ((k : Int) == 2) = false := by rw [beq_eq_false_iff_ne]; omega
    have HN : Hid (decide (k = 2) = false) := decide_eq_false q
    clear q
    go_wp2_with fail
    go_ret
    exact ⟨by rw [HX.out, HN.out]; rfl, HB0.out⟩
theorem slz {w : World} : SlAt w w.heap.size none 0 0 [] := ⟨⟨by simp [Lib.byteCells], fun h => absurd h (by omega)⟩, by omega, by omega⟩
def ownT (t : TG) : Bool := match t with | .mk k d r ks => ownR ordC k d r ks
set_option maxHeartbeats 16000000 in
theorem pWell_any (t : TG) (w : World) (S : Nat → Prop) (cs : List Value) (hs : TIn w S t cs) (hf : fineT t = true) :
    Calls Tryz.prog 54 #[.agg cs.toArray] w fun e w' => e = .returned (.bool (ownT t)) ∧ Below w.heap.size w w' := by
  obtain ⟨k, d, ⟨o, ⟨i1, p1, l1⟩, ⟨i2, p2, l2⟩⟩, ks, A1, n1, c1, A2, n2, c2, A3, n3, c3, A4, n4, c4, rfl, rfl⟩ := hs.form_
  dsimp only at hs ⊢
  obtain ⟨_, ⟨_, ho8⟩, ⟨r1, r3, r4⟩, ⟨g1, g2, g3, g4⟩, ⟨_, _, _, _, m3, _, m4, _⟩⟩ := hs.inv
  dsimp only at g3 g4 ho8 r3 r4
  rw [fineT] at hf
  simp only [Bool.and_eq_true, decide_eq_true_eq] at hf
  obtain ⟨⟨f3, f4⟩, ff⟩ := hf
  obtain ⟨sr, hsr⟩ : ∃ b, b = sameR ⟨o, ⟨i1, p1, l1⟩, ⟨i2, p2, l2⟩⟩ zeroR := ⟨_, rfl⟩
  obtain ⟨mr, hmr⟩ : ∃ b, b = mayR ordC ⟨o, ⟨i1, p1, l1⟩, ⟨i2, p2, l2⟩⟩ := ⟨_, rfl⟩
  have e1 : d.isEmpty = decide (n1 = 0) := by rw [← g1]; cases d <;> simp
  have e2 : ks.isEmpty = decide (n2 = 0) := by rw [← g2]; cases ks <;> simp
  obtain ⟨X, hX⟩ : ∃ X, X = ownT (.mk k d ⟨o, ⟨i1, p1, l1⟩, ⟨i2, p2, l2⟩⟩ ks) := ⟨_, rfl⟩
  have HM : Hid (X = if k = 1 then sr && decide (n1 = 0) && decide (n2 = 0) else if k = 2 ∨ k = 5 then sr && decide (n2 = 0) else if k = 3 then sr && decide (n1 = 0) && !headStar ks else if k = 4 then sr && decide (n1 = 0) else if k = 6 then mr && decide (n1 = 0) && decide (n2 = 0) else false) := by
    show _ = _
    rw [hX, hsr, hmr, ← e1, ← e2]; rfl
  rw [← hX]
  clear hX
  obtain ⟨w0, hw0⟩ : ∃ w0, w0 = ((w.alloc (.cells #[.int .u8 k, .slice A1 n1 c1, .slice A2 n2 c2, .int .u8 o, .bool i1, .bool p1, .slice A3 n3 c3, .bool i2, .bool p2, .slice A4 n4 c4] 29)).alloc (.cells #[.int .u8 k, .slice A1 n1 c1, .slice A2 n2 c2, .int .u8 o, .bool i1, .bool p1, .slice A3 n3 c3, .bool i2, .bool p2, .slice A4 n4 c4] 29)) := ⟨_, rfl⟩
  have HB0 : Hid (Below w.heap.size w w0) := by
    show Below _ _ _
    rw [hw0]
    exact ((Below.refl w.heap.size w).alloc (Nat.le_refl _) _).alloc (by simp; try omega) _
  have B0 : Blk w0 w.heap.size 29 #[.int .u8 k, .slice A1 n1 c1, .slice A2 n2 c2, .int .u8 o, .bool i1, .bool p1, .slice A3 n3 c3, .bool i2, .bool p2, .slice A4 n4 c4] := by
    rw [hw0]
    exact (Blk.new w 29 #[.int .u8 k, .slice A1 n1 c1, .slice A2 n2 c2, .int .u8 o, .bool i1, .bool p1, .slice A3 n3 c3, .bool i2, .bool p2, .slice A4 n4 c4]).alloc (.cells #[.int .u8 k, .slice A1 n1 c1, .slice A2 n2 c2, .int .u8 o, .bool i1, .bool p1, .slice A3 n3 c3, .bool i2, .bool p2, .slice A4 n4 c4] 29)
  have X0 : Hid (∀ W, Below w0.heap.size w0 W → ∀ kx u, (#[.int .u8 k, .slice A1 n1 c1, .slice A2 n2 c2, .int .u8 o, .bool i1, .bool p1, .slice A3 n3 c3, .bool i2, .bool p2, .slice A4 n4 c4] : Array Value)[kx]? = some u → W.cell? ⟨w.heap.size, kx, none⟩ = some u) := fun W hW kx u hk => cell_below hW ((B0.cell kx).trans hk) B0.lt
  have B1 : Blk w0 (w.heap.size + 1) 29 #[.int .u8 k, .slice A1 n1 c1, .slice A2 n2 c2, .int .u8 o, .bool i1, .bool p1, .slice A3 n3 c3, .bool i2, .bool p2, .slice A4 n4 c4] := by
    rw [hw0]
    have h := Blk.new (w.alloc (.cells #[.int .u8 k, .slice A1 n1 c1, .slice A2 n2 c2, .int .u8 o, .bool i1, .bool p1, .slice A3 n3 c3, .bool i2, .bool p2, .slice A4 n4 c4] 29)) 29 #[.int .u8 k, .slice A1 n1 c1, .slice A2 n2 c2, .int .u8 o, .bool i1, .bool p1, .slice A3 n3 c3, .bool i2, .bool p2, .slice A4 n4 c4]
    simpa using h
  have X1 : Hid (∀ W, Below w0.heap.size w0 W → ∀ kx u, (#[.int .u8 k, .slice A1 n1 c1, .slice A2 n2 c2, .int .u8 o, .bool i1, .bool p1, .slice A3 n3 c3, .bool i2, .bool p2, .slice A4 n4 c4] : Array Value)[kx]? = some u → W.cell? ⟨(w.heap.size + 1), kx, none⟩ = some u) := fun W hW kx u hk => cell_below hW ((B1.cell kx).trans hk) B1.lt
  have HR : Below w0.heap.size w0 w0 := Below.refl _ _
  have B0 := hid B0
  have B1 := hid B1
  have KS : Hid (∀ W, Below w.heap.size w W → Calls Tryz.prog 44 #[.agg #[.int .u8 o, .bool i1, .bool p1, .slice A3 n3 c3, .bool i2, .bool p2, .slice A4 n4 c4], .agg #[.int .u8 0, .bool false, .bool false, .slice none 0 0, .bool false, .bool false, .slice none 0 0]] W fun e w' => e = .returned (.bool sr) ∧ Below W.heap.size W w') := fun W hW => by
    rw [hsr]
    exact pSameRange ⟨o, ⟨i1, p1, l1⟩, ⟨i2, p2, l2⟩⟩ zeroR W ⟨(r3.old (by omega) hW).reads (by omega), by omega, m3⟩ ⟨(r4.old (by omega) hW).reads (by omega), by omega, m4⟩ slz slz
  have KZ : Hid (∀ W, Below w.heap.size w W → Calls Tryz.prog 44 #[.agg #[.int .u8 0, .bool false, .bool false, .slice none 0 0, .bool false, .bool false, .slice none 0 0], .agg #[.int .u8 0, .bool false, .bool false, .slice none 0 0, .bool false, .bool false, .slice none 0 0]] W fun e w' => e = .returned (.bool true) ∧ Below W.heap.size W w') := fun W hW => pSameRange zeroR zeroR W slz slz slz slz
  have KM : Hid (∀ W, Below w.heap.size w W → Calls Tryz.prog 75 #[.agg #[.int .u8 o, .bool i1, .bool p1, .slice A3 n3 c3, .bool i2, .bool p2, .slice A4 n4 c4]] W fun e w' => e = .returned (.bool mr) ∧ Below W.heap.size W w') := fun W hW => by
    rw [hmr]
    exact pMay11 ⟨o, ⟨i1, p1, l1⟩, ⟨i2, p2, l2⟩⟩ ho8 W ⟨(r3.old (by omega) hW).reads (by omega), by omega, m3⟩ ⟨(r4.old (by omega) hW).reads (by omega), by omega, m4⟩
  have HS := hid hs
  have HK := hid g2
  clear hs r1 r3 r4 g1 g2 g3 g4 f3 f4 ff hsr hmr m3 m4 e1 e2
  go_enter Tryz.func54, Tryz.ntmps54
  go_upto_region 2 with fail
  rw [← hw0]
  clear hw0
  have x0_0 := X0.out _ HR 0 _ rfl
  have x0_1 := X0.out _ HR 1 _ rfl
  have x0_2 := X0.out _ HR 2 _ rfl
  have x0_3 := X0.out _ HR 3 _ rfl
  have x0_4 := X0.out _ HR 4 _ rfl
  have x0_5 := X0.out _ HR 5 _ rfl
  have x0_6 := X0.out _ HR 6 _ rfl
  have x0_7 := X0.out _ HR 7 _ rfl
  have x0_8 := X0.out _ HR 8 _ rfl
  have x0_9 := X0.out _ HR 9 _ rfl
  have x1_0 := X1.out _ HR 0 _ rfl
  have x1_1 := X1.out _ HR 1 _ rfl
  have x1_2 := X1.out _ HR 2 _ rfl
  have x1_3 := X1.out _ HR 3 _ rfl
  have x1_4 := X1.out _ HR 4 _ rfl
  have x1_5 := X1.out _ HR 5 _ rfl
  have x1_6 := X1.out _ HR 6 _ rfl
  have x1_7 := X1.out _ HR 7 _ rfl
  have x1_8 := X1.out _ HR 8 _ rfl
  have x1_9 := X1.out _ HR 9 _ rfl
  by_cases k1 : k = 1
  · subst k1
    have HX : Hid (X = (sr && decide (n1 = 0) && decide (n2 = 0))) := by show _ = _; rw [HM.out]; rfl
    clear HM
    by_cases z1 : n1 = 0
    · subst z1
      by_cases z2 : n2 = 0
      · subst z2
        go_wp2_with (go_at_call 44; refine (KS.out _ HB0.out).mono ?_; rintro e w2 ⟨rfl, hb2⟩)
        go_ret
        exact ⟨by rw [HX.out]; simp, next_below HB0.out hb2⟩
      · have z2B : ((n2 : Int) == 0) = false := by rw [beq_eq_false_iff_ne]; omega
        have ZD : Hid (decide (n2 = 0) = false) := decide_eq_false z2
        clear z2
        go_wp2_with fail
        go_ret
        exact ⟨by rw [HX.out, ZD.out]; simp, HB0.out⟩
    · have z1B : ((n1 : Int) == 0) = false := by rw [beq_eq_false_iff_ne]; omega
      have ZD : Hid (decide (n1 = 0) = false) := decide_eq_false z1
      clear z1
      go_wp2_with fail
      go_ret
      exact ⟨by rw [HX.out, ZD.out]; simp, HB0.out⟩
  by_cases k2 : k = 2
  · subst k2
    have q1 := B1.out.frozen 1
    have HX : Hid (X = (sr && decide (n2 = 0))) := by show _ = _; rw [HM.out]; rfl
    clear HM
    go_upto_region 18 with fail
    obtain ⟨w1, hw1⟩ : ∃ w1, w1 = w0.setCell ⟨w.heap.size + 1, 1, none⟩ (.slice none 0 0) := ⟨_, rfl⟩
    rw [← hw1]
    have D1 : Hid (Blk w1 (w.heap.size + 1) 29 (#[.int .u8 2, .slice A1 n1 c1, .slice A2 n2 c2, .int .u8 o, .bool i1, .bool p1, .slice A3 n3 c3, .bool i2, .bool p2, .slice A4 n4 c4].setIfInBounds 1 (.slice none 0 0))) := by show Blk _ _ _ _; rw [hw1]; exact B1.out.set_ 1 _
    have D0 : Hid (Blk w1 w.heap.size 29 #[.int .u8 2, .slice A1 n1 c1, .slice A2 n2 c2, .int .u8 o, .bool i1, .bool p1, .slice A3 n3 c3, .bool i2, .bool p2, .slice A4 n4 c4]) := by show Blk _ _ _ _; rw [hw1]; exact B0.out.far (by show w.heap.size ≠ w.heap.size + 1; omega) _
    have HB1 : Hid (Below w.heap.size w w1) := by show Below _ _ _; rw [hw1]; exact HB0.out.setCell (by show w.heap.size ≤ w.heap.size + 1; omega) _
    clear q1 hw1 x0_0 x0_1 x0_2 x0_3 x0_4 x0_5 x0_6 x0_7 x0_8 x0_9 x1_0 x1_1 x1_2 x1_3 x1_4 x1_5 x1_6 x1_7 x1_8 x1_9 HR X0 X1
    have y0 := D1.out.cell 0
    have y1 := D1.out.cell 1
    have y2 := D1.out.cell 2
    have y3 := D1.out.cell 3
    have y4 := D1.out.cell 4
    have y5 := D1.out.cell 5
    have y6 := D1.out.cell 6
    have y7 := D1.out.cell 7
    have y8 := D1.out.cell 8
    have y9 := D1.out.cell 9
    have v0 := D0.out.cell 0
    have v1 := D0.out.cell 1
    have v2 := D0.out.cell 2
    have v3 := D0.out.cell 3
    have v4 := D0.out.cell 4
    have v5 := D0.out.cell 5
    have v6 := D0.out.cell 6
    have v7 := D0.out.cell 7
    have v8 := D0.out.cell 8
    have v9 := D0.out.cell 9
    by_cases z2 : n2 = 0
    · subst z2
      go_wp2_with (go_at_call 44; refine (KS.out _ HB1.out).mono ?_; rintro e w2 ⟨rfl, hb2⟩)
      go_ret
      exact ⟨by rw [HX.out]; simp, next_below HB1.out hb2⟩
    · have z2B : ((n2 : Int) == 0) = false := by rw [beq_eq_false_iff_ne]; omega
      have ZD : Hid (decide (n2 = 0) = false) := decide_eq_false z2
      clear z2
      go_wp2_with fail
      go_ret
      exact ⟨by rw [HX.out, ZD.out]; simp, HB1.out⟩
  by_cases k5 : k = 5
  · subst k5
    have q1 := B1.out.frozen 1
    have HX : Hid (X = (sr && decide (n2 = 0))) := by show _ = _; rw [HM.out]; rfl
    clear HM
    go_upto_region 18 with fail
    obtain ⟨w1, hw1⟩ : ∃ w1, w1 = w0.setCell ⟨w.heap.size + 1, 1, none⟩ (.slice none 0 0) := ⟨_, rfl⟩
    rw [← hw1]
    have D1 : Hid (Blk w1 (w.heap.size + 1) 29 (#[.int .u8 5, .slice A1 n1 c1, .slice A2 n2 c2, .int .u8 o, .bool i1, .bool p1, .slice A3 n3 c3, .bool i2, .bool p2, .slice A4 n4 c4].setIfInBounds 1 (.slice none 0 0))) := by show Blk _ _ _ _; rw [hw1]; exact B1.out.set_ 1 _
    have D0 : Hid (Blk w1 w.heap.size 29 #[.int .u8 5, .slice A1 n1 c1, .slice A2 n2 c2, .int .u8 o, .bool i1, .bool p1, .slice A3 n3 c3, .bool i2, .bool p2, .slice A4 n4 c4]) := by show Blk _ _ _ _; rw [hw1]; exact B0.out.far (by show w.heap.size ≠ w.heap.size + 1; omega) _
    have HB1 : Hid (Below w.heap.size w w1) := by show Below _ _ _; rw [hw1]; exact HB0.out.setCell (by show w.heap.size ≤ w.heap.size + 1; omega) _
    clear q1 hw1 x0_0 x0_1 x0_2 x0_3 x0_4 x0_5 x0_6 x0_7 x0_8 x0_9 x1_0 x1_1 x1_2 x1_3 x1_4 x1_5 x1_6 x1_7 x1_8 x1_9 HR X0 X1
    have y0 := D1.out.cell 0
    have y1 := D1.out.cell 1
    have y2 := D1.out.cell 2
    have y3 := D1.out.cell 3
    have y4 := D1.out.cell 4
    have y5 := D1.out.cell 5
    have y6 := D1.out.cell 6
    have y7 := D1.out.cell 7
    have y8 := D1.out.cell 8
    have y9 := D1.out.cell 9
    have v0 := D0.out.cell 0
    have v1 := D0.out.cell 1
    have v2 := D0.out.cell 2
    have v3 := D0.out.cell 3
    have v4 := D0.out.cell 4
    have v5 := D0.out.cell 5
    have v6 := D0.out.cell 6
    have v7 := D0.out.cell 7
    have v8 := D0.out.cell 8
    have v9 := D0.out.cell 9
    by_cases z2 : n2 = 0
    · subst z2
      go_wp2_with (go_at_call 44; refine (KS.out _ HB1.out).mono ?_; rintro e w2 ⟨rfl, hb2⟩)
      go_ret
      exact ⟨by rw [HX.out]; simp, next_below HB1.out hb2⟩
    · have z2B : ((n2 : Int) == 0) = false := by rw [beq_eq_false_iff_ne]; omega
      have ZD : Hid (decide (n2 = 0) = false) := decide_eq_false z2
      clear z2
      go_wp2_with fail
      go_ret
      exact ⟨by rw [HX.out, ZD.out]; simp, HB1.out⟩
  by_cases k4 : k = 4
  · subst k4
    have q2 := B1.out.frozen 2
    have HX : Hid (X = (sr && decide (n1 = 0))) := by show _ = _; rw [HM.out]; rfl
    clear HM
    go_upto_region 18 with fail
    obtain ⟨w1, hw1⟩ : ∃ w1, w1 = w0.setCell ⟨w.heap.size + 1, 2, none⟩ (.slice none 0 0) := ⟨_, rfl⟩
    rw [← hw1]
    have D1 : Hid (Blk w1 (w.heap.size + 1) 29 (#[.int .u8 4, .slice A1 n1 c1, .slice A2 n2 c2, .int .u8 o, .bool i1, .bool p1, .slice A3 n3 c3, .bool i2, .bool p2, .slice A4 n4 c4].setIfInBounds 2 (.slice none 0 0))) := by show Blk _ _ _ _; rw [hw1]; exact B1.out.set_ 2 _
    have D0 : Hid (Blk w1 w.heap.size 29 #[.int .u8 4, .slice A1 n1 c1, .slice A2 n2 c2, .int .u8 o, .bool i1, .bool p1, .slice A3 n3 c3, .bool i2, .bool p2, .slice A4 n4 c4]) := by show Blk _ _ _ _; rw [hw1]; exact B0.out.far (by show w.heap.size ≠ w.heap.size + 1; omega) _
    have HB1 : Hid (Below w.heap.size w w1) := by show Below _ _ _; rw [hw1]; exact HB0.out.setCell (by show w.heap.size ≤ w.heap.size + 1; omega) _
    clear q2 hw1 x0_0 x0_1 x0_2 x0_3 x0_4 x0_5 x0_6 x0_7 x0_8 x0_9 x1_0 x1_1 x1_2 x1_3 x1_4 x1_5 x1_6 x1_7 x1_8 x1_9 HR X0 X1
    have y0 := D1.out.cell 0
    have y1 := D1.out.cell 1
    have y2 := D1.out.cell 2
    have y3 := D1.out.cell 3
    have y4 := D1.out.cell 4
    have y5 := D1.out.cell 5
    have y6 := D1.out.cell 6
    have y7 := D1.out.cell 7
    have y8 := D1.out.cell 8
    have y9 := D1.out.cell 9
    have v0 := D0.out.cell 0
    have v1 := D0.out.cell 1
    have v2 := D0.out.cell 2
    have v3 := D0.out.cell 3
    have v4 := D0.out.cell 4
    have v5 := D0.out.cell 5
    have v6 := D0.out.cell 6
    have v7 := D0.out.cell 7
    have v8 := D0.out.cell 8
    have v9 := D0.out.cell 9
    by_cases z1 : n1 = 0
    · subst z1
      go_wp2_with (go_at_call 44; refine (KS.out _ HB1.out).mono ?_; rintro e w2 ⟨rfl, hb2⟩)
      go_ret
      exact ⟨by rw [HX.out]; simp, next_below HB1.out hb2⟩
    · have z1B : ((n1 : Int) == 0) = false := by rw [beq_eq_false_iff_ne]; omega
      have ZD : Hid (decide (n1 = 0) = false) := decide_eq_false z1
      clear z1
      go_wp2_with fail
      go_ret
      exact ⟨by rw [HX.out, ZD.out]; simp, HB1.out⟩
  by_cases k3 : k = 3
  · subst k3
    have q2 := B1.out.frozen 2
    have HX : Hid (X = (sr && decide (n1 = 0) && !headStar ks)) := by show _ = _; rw [HM.out]; rfl
    clear HM
    go_upto_region 10 with fail
    obtain ⟨w1, hw1⟩ : ∃ w1, w1 = w0.setCell ⟨w.heap.size + 1, 2, none⟩ (.slice none 0 0) := ⟨_, rfl⟩
    rw [← hw1]
    have D1 : Hid (Blk w1 (w.heap.size + 1) 29 (#[.int .u8 3, .slice A1 n1 c1, .slice A2 n2 c2, .int .u8 o, .bool i1, .bool p1, .slice A3 n3 c3, .bool i2, .bool p2, .slice A4 n4 c4].setIfInBounds 2 (.slice none 0 0))) := by show Blk _ _ _ _; rw [hw1]; exact B1.out.set_ 2 _
    have D0 : Hid (Blk w1 w.heap.size 29 #[.int .u8 3, .slice A1 n1 c1, .slice A2 n2 c2, .int .u8 o, .bool i1, .bool p1, .slice A3 n3 c3, .bool i2, .bool p2, .slice A4 n4 c4]) := by show Blk _ _ _ _; rw [hw1]; exact B0.out.far (by show w.heap.size ≠ w.heap.size + 1; omega) _
    have HB1 : Hid (Below w.heap.size w w1) := by show Below _ _ _; rw [hw1]; exact HB0.out.setCell (by show w.heap.size ≤ w.heap.size + 1; omega) _
    clear q2 hw1 x0_0 x0_1 x0_2 x0_3 x0_4 x0_5 x0_6 x0_7 x0_8 x0_9 x1_0 x1_1 x1_2 x1_3 x1_4 x1_5 x1_6 x1_7 x1_8 x1_9 HR X0 X1
    have y0 := D1.out.cell 0
    have y1 := D1.out.cell 1
    have y2 := D1.out.cell 2
    have y3 := D1.out.cell 3
    have y4 := D1.out.cell 4
    have y5 := D1.out.cell 5
    have y6 := D1.out.cell 6
    have y7 := D1.out.cell 7
    have y8 := D1.out.cell 8
    have y9 := D1.out.cell 9
    have v0 := D0.out.cell 0
    have v1 := D0.out.cell 1
    have v2 := D0.out.cell 2
    have v3 := D0.out.cell 3
    have v4 := D0.out.cell 4
    have v5 := D0.out.cell 5
    have v6 := D0.out.cell 6
    have v7 := D0.out.cell 7
    have v8 := D0.out.cell 8
    have v9 := D0.out.cell 9
    by_cases z2 : n2 = 0
    · subst z2
      have HH : Hid (headStar ks = false) := by show _ = _; rw [List.eq_nil_of_length_eq_zero HK.out]; rfl
      by_cases z1 : n1 = 0
      · subst z1
        go_wp2_with (go_at_call 44; refine (KS.out _ HB1.out).mono ?_; rintro e w2 ⟨rfl, hb2⟩)
        go_ret
        exact ⟨by rw [HX.out, HH.out]; simp, next_below HB1.out hb2⟩
      · have z1B : ((n1 : Int) == 0) = false := by rw [beq_eq_false_iff_ne]; omega
        have ZD : Hid (decide (n1 = 0) = false) := decide_eq_false z1
        clear z1
        go_wp2_with fail
        go_ret
        exact ⟨by rw [HX.out, ZD.out]; simp, HB1.out⟩
    · obtain ⟨ad, u0, u1, u2, u3, u4, u5, u6, u7, u8, u9, x, rfl, _, hx, _, hin, d0, d1, d2, d3, d4, d5, d6, d7, d8, d9⟩ := (HS.out.old HB1.out).kid (k := 0) (by omega)
      rw [Nat.zero_mul, show ad.add 0 = ad from if_pos rfl] at d0 d1 d2 d3 d4 d5 d6 d7 d8 d9
      have h0P : 0 < n2 := by omega
      have h0B : decide (0 < n2) = true := decide_eq_true h0P
      obtain ⟨sb, hsb⟩ : ∃ b, b = starB x := ⟨_, rfl⟩
      have HH : Hid (headStar ks = sb) := by
        show _ = _
        cases ks with
        | nil => simp at hx
        | cons y r =>
          have : y = x := by simpa using hx
          rw [this, head_star, hsb]
      have KT := pStar_any x w1 _ _ hin
      rw [← hsb] at KT
      have KT := hid KT
      clear hsb hx hin z2
      cases sb with
      | true =>
        go_wp2_with (go_at_call 74; refine (KT.out).mono ?_; rintro e w3 ⟨rfl, hb3⟩; have BD := D1.out.old hb3; have y0 := BD.cell 0; have y1 := BD.cell 1; have y2 := BD.cell 2; have y3 := BD.cell 3; have y4 := BD.cell 4; have y5 := BD.cell 5; have y6 := BD.cell 6; have y7 := BD.cell 7; have y8 := BD.cell 8; have y9 := BD.cell 9; have hb13 := next_below HB1.out hb3)
        go_ret
        exact ⟨by rw [HX.out, HH.out]; simp, hb13⟩
      | false =>
        go_upto_region 18 with (go_at_call 74; refine (KT.out).mono ?_; rintro e w3 ⟨rfl, hb3⟩; have BD := D1.out.old hb3; have y0 := BD.cell 0; have y1 := BD.cell 1; have y2 := BD.cell 2; have y3 := BD.cell 3; have y4 := BD.cell 4; have y5 := BD.cell 5; have y6 := BD.cell 6; have y7 := BD.cell 7; have y8 := BD.cell 8; have y9 := BD.cell 9; have hb13 := next_below HB1.out hb3)
        by_cases z1 : n1 = 0
        · subst z1
          go_wp2_with (go_at_call 44; refine (KS.out _ hb13).mono ?_; rintro e w2 ⟨rfl, hb2⟩)
          go_ret
          exact ⟨by rw [HX.out, HH.out]; simp, next_below hb13 hb2⟩
        · have z1B : ((n1 : Int) == 0) = false := by rw [beq_eq_false_iff_ne]; omega
          have ZD : Hid (decide (n1 = 0) = false) := decide_eq_false z1
          clear z1
          go_wp2_with fail
          go_ret
          exact ⟨by rw [HX.out, HH.out, ZD.out]; simp, hb13⟩
  by_cases k6 : k = 6
  · subst k6
    have q3 := B1.out.frozen 3
    have q4 := B1.out.frozen 4
    have q5 := B1.out.frozen 5
    have q6 := B1.out.frozen 6
    have q7 := B1.out.frozen 7
    have q8 := B1.out.frozen 8
    have q9 := B1.out.frozen 9
    have HX : Hid (X = (mr && decide (n1 = 0) && decide (n2 = 0))) := by show _ = _; rw [HM.out]; rfl
    clear HM
    go_upto_region 16 with fail
    obtain ⟨w1, hw1⟩ : ∃ w1, w1 = (((((((w0).setCell ⟨w.heap.size + 1, 3, none⟩ (.int .u8 0)).setCell ⟨w.heap.size + 1, 4, none⟩ (.bool false)).setCell ⟨w.heap.size + 1, 5, none⟩ (.bool false)).setCell ⟨w.heap.size + 1, 6, none⟩ (.slice none 0 0)).setCell ⟨w.heap.size + 1, 7, none⟩ (.bool false)).setCell ⟨w.heap.size + 1, 8, none⟩ (.bool false)).setCell ⟨w.heap.size + 1, 9, none⟩ (.slice none 0 0) := ⟨_, rfl⟩
    rw [← hw1]
    have D1 : Hid (Blk w1 (w.heap.size + 1) 29 #[.int .u8 6, .slice A1 n1 c1, .slice A2 n2 c2, .int .u8 0, .bool false, .bool false, .slice none 0 0, .bool false, .bool false, .slice none 0 0]) := by
      show Blk _ _ _ _
      rw [hw1]
      have h0 := B1.out
      have h1 : Blk ((w0).setCell ⟨w.heap.size + 1, 3, none⟩ (.int .u8 0)) (w.heap.size + 1) 29 #[.int .u8 6, .slice A1 n1 c1, .slice A2 n2 c2, .int .u8 0, .bool i1, .bool p1, .slice A3 n3 c3, .bool i2, .bool p2, .slice A4 n4 c4] := h0.set_ 3 (.int .u8 0)
      have h2 : Blk (((w0).setCell ⟨w.heap.size + 1, 3, none⟩ (.int .u8 0)).setCell ⟨w.heap.size + 1, 4, none⟩ (.bool false)) (w.heap.size + 1) 29 #[.int .u8 6, .slice A1 n1 c1, .slice A2 n2 c2, .int .u8 0, .bool false, .bool p1, .slice A3 n3 c3, .bool i2, .bool p2, .slice A4 n4 c4] := h1.set_ 4 (.bool false)
      have h3 : Blk ((((w0).setCell ⟨w.heap.size + 1, 3, none⟩ (.int .u8 0)).setCell ⟨w.heap.size + 1, 4, none⟩ (.bool false)).setCell ⟨w.heap.size + 1, 5, none⟩ (.bool false)) (w.heap.size + 1) 29 #[.int .u8 6, .slice A1 n1 c1, .slice A2 n2 c2, .int .u8 0, .bool false, .bool false, .slice A3 n3 c3, .bool i2, .bool p2, .slice A4 n4 c4] := h2.set_ 5 (.bool false)
      have h4 : Blk (((((w0).setCell ⟨w.heap.size + 1, 3, none⟩ (.int .u8 0)).setCell ⟨w.heap.size + 1, 4, none⟩ (.bool false)).setCell ⟨w.heap.size + 1, 5, none⟩ (.bool false)).setCell ⟨w.heap.size + 1, 6, none⟩ (.slice none 0 0)) (w.heap.size + 1) 29 #[.int .u8 6, .slice A1 n1 c1, .slice A2 n2 c2, .int .u8 0, .bool false, .bool false, .slice none 0 0, .bool i2, .bool p2, .slice A4 n4 c4] := h3.set_ 6 (.slice none 0 0)
      have h5 : Blk ((((((w0).setCell ⟨w.heap.size + 1, 3, none⟩ (.int .u8 0)).setCell ⟨w.heap.size + 1, 4, none⟩ (.bool false)).setCell ⟨w.heap.size + 1, 5, none⟩ (.bool false)).setCell ⟨w.heap.size + 1, 6, none⟩ (.slice none 0 0)).setCell ⟨w.heap.size + 1, 7, none⟩ (.bool false)) (w.heap.size + 1) 29 #[.int .u8 6, .slice A1 n1 c1, .slice A2 n2 c2, .int .u8 0, .bool false, .bool false, .slice none 0 0, .bool false, .bool p2, .slice A4 n4 c4] := h4.set_ 7 (.bool false)
      have h6 : Blk (((((((w0).setCell ⟨w.heap.size + 1, 3, none⟩ (.int .u8 0)).setCell ⟨w.heap.size + 1, 4, none⟩ (.bool false)).setCell ⟨w.heap.size + 1, 5, none⟩ (.bool false)).setCell ⟨w.heap.size + 1, 6, none⟩ (.slice none 0 0)).setCell ⟨w.heap.size + 1, 7, none⟩ (.bool false)).setCell ⟨w.heap.size + 1, 8, none⟩ (.bool false)) (w.heap.size + 1) 29 #[.int .u8 6, .slice A1 n1 c1, .slice A2 n2 c2, .int .u8 0, .bool false, .bool false, .slice none 0 0, .bool false, .bool false, .slice A4 n4 c4] := h5.set_ 8 (.bool false)
      have h7 : Blk ((((((((w0).setCell ⟨w.heap.size + 1, 3, none⟩ (.int .u8 0)).setCell ⟨w.heap.size + 1, 4, none⟩ (.bool false)).setCell ⟨w.heap.size + 1, 5, none⟩ (.bool false)).setCell ⟨w.heap.size + 1, 6, none⟩ (.slice none 0 0)).setCell ⟨w.heap.size + 1, 7, none⟩ (.bool false)).setCell ⟨w.heap.size + 1, 8, none⟩ (.bool false)).setCell ⟨w.heap.size + 1, 9, none⟩ (.slice none 0 0)) (w.heap.size + 1) 29 #[.int .u8 6, .slice A1 n1 c1, .slice A2 n2 c2, .int .u8 0, .bool false, .bool false, .slice none 0 0, .bool false, .bool false, .slice none 0 0] := h6.set_ 9 (.slice none 0 0)
      exact h7
    have D0 : Hid (Blk w1 w.heap.size 29 #[.int .u8 6, .slice A1 n1 c1, .slice A2 n2 c2, .int .u8 o, .bool i1, .bool p1, .slice A3 n3 c3, .bool i2, .bool p2, .slice A4 n4 c4]) := by show Blk _ _ _ _; rw [hw1]; exact (((((((B0.out).far (by show w.heap.size ≠ w.heap.size + 1; omega) _).far (by show w.heap.size ≠ w.heap.size + 1; omega) _).far (by show w.heap.size ≠ w.heap.size + 1; omega) _).far (by show w.heap.size ≠ w.heap.size + 1; omega) _).far (by show w.heap.size ≠ w.heap.size + 1; omega) _).far (by show w.heap.size ≠ w.heap.size + 1; omega) _).far (by show w.heap.size ≠ w.heap.size + 1; omega) _
    have HB1 : Hid (Below w.heap.size w w1) := by show Below _ _ _; rw [hw1]; exact (((((((HB0.out).setCell (by show w.heap.size ≤ w.heap.size + 1; omega) _).setCell (by show w.heap.size ≤ w.heap.size + 1; omega) _).setCell (by show w.heap.size ≤ w.heap.size + 1; omega) _).setCell (by show w.heap.size ≤ w.heap.size + 1; omega) _).setCell (by show w.heap.size ≤ w.heap.size + 1; omega) _).setCell (by show w.heap.size ≤ w.heap.size + 1; omega) _).setCell (by show w.heap.size ≤ w.heap.size + 1; omega) _
    clear q3 q4 q5 q6 q7 q8 q9 hw1 x0_0 x0_1 x0_2 x0_3 x0_4 x0_5 x0_6 x0_7 x0_8 x0_9 x1_0 x1_1 x1_2 x1_3 x1_4 x1_5 x1_6 x1_7 x1_8 x1_9 HR X0 X1
    have y0 := D1.out.cell 0
    have y1 := D1.out.cell 1
    have y2 := D1.out.cell 2
    have y3 := D1.out.cell 3
    have y4 := D1.out.cell 4
    have y5 := D1.out.cell 5
    have y6 := D1.out.cell 6
    have y7 := D1.out.cell 7
    have y8 := D1.out.cell 8
    have y9 := D1.out.cell 9
    have v0 := D0.out.cell 0
    have v1 := D0.out.cell 1
    have v2 := D0.out.cell 2
    have v3 := D0.out.cell 3
    have v4 := D0.out.cell 4
    have v5 := D0.out.cell 5
    have v6 := D0.out.cell 6
    have v7 := D0.out.cell 7
    have v8 := D0.out.cell 8
    have v9 := D0.out.cell 9
    cases mr with
    | false =>
      go_wp2_with (go_at_call 75; refine (KM.out _ HB1.out).mono ?_; rintro e w3 ⟨rfl, hb3⟩; have BD := D1.out.old hb3; have y0 := BD.cell 0; have y1 := BD.cell 1; have y2 := BD.cell 2; have y3 := BD.cell 3; have y4 := BD.cell 4; have y5 := BD.cell 5; have y6 := BD.cell 6; have y7 := BD.cell 7; have y8 := BD.cell 8; have y9 := BD.cell 9; have hb13 := next_below HB1.out hb3)
      go_ret
      exact ⟨by rw [HX.out]; simp, hb13⟩
    | true =>
      go_upto_region 18 with (go_at_call 75; refine (KM.out _ HB1.out).mono ?_; rintro e w3 ⟨rfl, hb3⟩; have BD := D1.out.old hb3; have y0 := BD.cell 0; have y1 := BD.cell 1; have y2 := BD.cell 2; have y3 := BD.cell 3; have y4 := BD.cell 4; have y5 := BD.cell 5; have y6 := BD.cell 6; have y7 := BD.cell 7; have y8 := BD.cell 8; have y9 := BD.cell 9; have hb13 := next_below HB1.out hb3)
      by_cases z1 : n1 = 0
      · subst z1
        by_cases z2 : n2 = 0
        · subst z2
          go_wp2_with (go_at_call 44; refine (KZ.out _ hb13).mono ?_; rintro e w2 ⟨rfl, hb2⟩)
          go_ret
          exact ⟨by rw [HX.out]; simp, next_below hb13 hb2⟩
        · have z2B : ((n2 : Int) == 0) = false := by rw [beq_eq_false_iff_ne]; omega
          have ZD : Hid (decide (n2 = 0) = false) := decide_eq_false z2
          clear z2
          go_wp2_with fail
          go_ret
          exact ⟨by rw [HX.out, ZD.out]; simp, hb13⟩
      · have z1B : ((n1 : Int) == 0) = false := by rw [beq_eq_false_iff_ne]; omega
        have ZD : Hid (decide (n1 = 0) = false) := decide_eq_false z1
        clear z1
        go_wp2_with fail
        go_ret
        exact ⟨by rw [HX.out, ZD.out]; simp, hb13⟩
  have HX : Hid (X = false) := by
    show _ = _
    rw [HM.out, if_neg k1, if_neg (by omega), if_neg k3, if_neg k4, if_neg k6]
  have ec1 : ((k : Int) == 1) = false := by rw [beq_eq_false_iff_ne]; omega
  have ec2 : ((k : Int) == 2) = false := by rw [beq_eq_false_iff_ne]; omega
  have ec5 : ((k : Int) == 5) = false := by rw [beq_eq_false_iff_ne]; omega
  have ec3 : ((k : Int) == 3) = false := by rw [beq_eq_false_iff_ne]; omega
  have ec4 : ((k : Int) == 4) = false := by rw [beq_eq_false_iff_ne]; omega
  have ec6 : ((k : Int) == 6) = false := by rw [beq_eq_false_iff_ne]; omega
  clear HM k1 k2 k5 k3 k4 k6
  go_wp2_with fail
  go_ret
  exact ⟨ret_bool (by rw [HX.out]), HB0.out⟩
end Go.Proofs.YtinlonpcakkfhaaGreatDoor
end
section
set_option maxRecDepth 100000
namespace Go.Proofs.YtinlonpcakkfhaaGreatDoor
open Go Go.Proofs Go.RowKit Sx _root_.Ord11 Go.Proofs.YtinlonpcakkfhaaGreatDoor.Ord11 _root_.Tag12
def LeftAt (w : World) (L : Nat) (n : Int) : Prop := w.heap[L]? = some (Obj.cells #[.int .i64 n] 3 (0, 0))
theorem LeftAt.all {w : World} {L : Nat} {n : Int} (h : LeftAt w L n) : w.cell? ⟨L, 0, none⟩ = some (.int .i64 n) ∧ w.frozen? ⟨L, 0, none⟩ = false := by
  refine ⟨?_, ?_⟩
  · rw [Lib.cell_of_heap h]; rfl
  · unfold LeftAt at h; simp [World.frozen?, h]
theorem LeftAt.lt {w : World} {L : Nat} {n : Int} (h : LeftAt w L n) : L < w.heap.size := by
  rcases Nat.lt_or_ge L w.heap.size with h' | h'
  · exact h'
  · unfold LeftAt at h; rw [Array.getElem?_eq_none h'] at h; cases h
theorem LeftAt.old {w w' : World} {L : Nat} {n : Int} (h : LeftAt w L n) (hb : Below w.heap.size w w') : LeftAt w' L n := below_at hb h
theorem LeftAt.set {w : World} {L : Nat} {n : Int} (h : LeftAt w L n) (m : Int) : LeftAt (w.setCell ⟨L, 0, none⟩ (.int .i64 m)) L m := Joins.block_setCell h _
def CntEnd (w : World) (L : Nat) (b : Bool) (o : Option Nat) (e : Ending) (w' : World) : Prop :=
  ∃ m : Int, e = .returned (.bool b) ∧ LeftAt w' L m ∧ (∀ j, o = some j → m = j) ∧ w.grownBy w' (some L)
def oneT (n : Nat) (b : Bool) : Option Nat := if n = 0 ∨ b = false then none else some (n - 1)
set_option maxHeartbeats 4000000 in
theorem pAsk_any (t : TG) (w : World) (S : Nat → Prop) (cs : List Value) (L n : Nat) (hs : TIn w S t cs) (hf : fineT t = true) (hL : LeftAt w L n) (hn : n ≤ 512) (hS : ∀ b, S b → b ≠ L) :
    Calls Tryz.prog 53 #[.agg cs.toArray, .pointer (some ⟨L, 0, none⟩)] w (CntEnd w L (oneT n (ownT t)).isNone (oneT n (ownT t))) := by
  obtain ⟨k, d, ⟨o, ⟨i1, p1, l1⟩, ⟨i2, p2, l2⟩⟩, ks, A1, n1, c1, A2, n2, c2, A3, n3, c3, A4, n4, c4, rfl, rfl⟩ := hs.form_
  dsimp only at hs ⊢
  obtain ⟨ow, how⟩ : ∃ b, b = ownT (.mk k d ⟨o, ⟨i1, p1, l1⟩, ⟨i2, p2, l2⟩⟩ ks) := ⟨_, rfl⟩
  rw [← how]
  obtain ⟨w0, hw0⟩ : ∃ w0, w0 = w.alloc (.cells #[.int .u8 k, .slice A1 n1 c1, .slice A2 n2 c2, .int .u8 o, .bool i1, .bool p1, .slice A3 n3 c3, .bool i2, .bool p2, .slice A4 n4 c4] 29) := ⟨_, rfl⟩
  have hLlt := hL.lt
  have hb0 : Below w.heap.size w w0 := by rw [hw0]; exact below_new _ _
  have B0 : Blk w0 w.heap.size 29 #[.int .u8 k, .slice A1 n1 c1, .slice A2 n2 c2, .int .u8 o, .bool i1, .bool p1, .slice A3 n3 c3, .bool i2, .bool p2, .slice A4 n4 c4] := by rw [hw0]; exact Blk.new _ _ _
  obtain ⟨x0, q0⟩ := (hL.old hb0).all
  obtain ⟨w1, hw1⟩ : ∃ w1, w1 = w0.setCell ⟨L, 0, none⟩ (.int .i64 ((n : Int) - 1)) := ⟨_, rfl⟩
  have HL1 : Hid (LeftAt w1 L ((n : Int) - 1)) := by show LeftAt _ _ _; rw [hw1]; exact (hL.old hb0).set _
  have HG1 : Hid (w.grownBy w1 (some L)) := by
    show w.grownBy w1 (some L)
    rw [hw1]
    exact (grown_below hb0 _).trans (grown_set w0 L 0 (.int .i64 ((n : Int) - 1)))
  have D0 : Blk w1 w.heap.size 29 #[.int .u8 k, .slice A1 n1 c1, .slice A2 n2 c2, .int .u8 o, .bool i1, .bool p1, .slice A3 n3 c3, .bool i2, .bool p2, .slice A4 n4 c4] := by rw [hw1]; exact B0.far (by show w.heap.size ≠ L; omega) _
  have hs1 := hs.grown HG1.out (fun b hb e => hS b hb (by injection e))
  have KW := pWell_any _ w1 S _ hs1 hf
  rw [← how] at KW
  have KW := hid KW
  obtain ⟨y0, z0⟩ := HL1.out.all
  have H0 := hid (Nat.le_refl 0)
  clear hs hs1 hf hL hS how hb0 B0
  go_enter Tryz.func53, Tryz.ntmps53
  go_upto_region 1 with fail
  rw [← hw0]
  clear hw0
  go_upto_region 2 with fail
  rw [← hw1]
  clear hw1 x0 q0
  have v0 := D0.cell 0
  have v1 := D0.cell 1
  have v2 := D0.cell 2
  have v3 := D0.cell 3
  have v4 := D0.cell 4
  have v5 := D0.cell 5
  have v6 := D0.cell 6
  have v7 := D0.cell 7
  have v8 := D0.cell 8
  have v9 := D0.cell 9
  by_cases hz : n = 0
  · have HO : Hid (oneT n ow = none) := by show _ = _; unfold oneT; rw [if_pos (.inl hz)]
    have hzB : decide ((n : Int) - 1 < 0) = true := decide_eq_true (by omega)
    go_wp2_with fail
    go_ret
    exact ⟨_, ret_bool (by rw [HO.out]; rfl), HL1.out, (fun j h => by rw [HO.out] at h; cases h), HG1.out⟩
  · have hzB : decide ((n : Int) - 1 < 0) = false := decide_eq_false (by omega)
    have HO : Hid (oneT n ow = if ow = false then none else some (n - 1)) := by
      show _ = _
      unfold oneT
      cases ow
      · rw [if_pos (.inr rfl), if_pos rfl]
      · rw [if_neg (by simp [hz]), if_neg (by simp)]
    cases ow with
    | false =>
      go_wp2_with (go_at_call 54; refine (KW.out).mono ?_; rintro e w2 ⟨rfl, hb2⟩)
      go_ret
      exact ⟨_, ret_bool (by rw [HO.out]; rfl), HL1.out.old hb2, (fun j h => by rw [HO.out] at h; cases h), HG1.out.trans (grown_below hb2 _)⟩
    | true =>
      go_wp2_with (go_at_call 54; refine (KW.out).mono ?_; rintro e w2 ⟨rfl, hb2⟩)
      go_ret
      exact ⟨_, ret_bool (by rw [HO.out]; rfl), HL1.out.old hb2, (fun j h => by rw [HO.out, if_neg (by simp)] at h; injection h with h; omega), HG1.out.trans (grown_below hb2 _)⟩
def SomeT (t : TG) : Prop := ∀ (w : World) (S : Nat → Prop) (cs : List Value) (L n : Nat), TIn w S t cs → fineT t = true → LeftAt w L n → n ≤ 512 → (∀ b, S b → b ≠ L) →
  Calls Tryz.prog 52 #[.agg cs.toArray, .func (.func 53) #[] #[.pointer (some ⟨L, 0, none⟩)]] w (CntEnd w L (cnt ordC n t).isNone (cnt ordC n t))
set_option maxHeartbeats 4000000 in
theorem pSome1_any (t : TG) (H : SomeT t) (g : Nat) (w : World) (S : Nat → Prop) (cs : List Value) (L n : Nat) (hs : TIn w S t cs) (hf : fineT t = true) (hL : LeftAt w L n) (hn : n ≤ 512) (hS : ∀ b, S b → b ≠ L) (hg : w.cell? ⟨g, 0, none⟩ = some (.func (.func 53) #[] #[.pointer (some ⟨L, 0, none⟩)])) (hgl : g < w.heap.size) :
    Calls Tryz.prog 73 #[.agg cs.toArray, .pointer (some ⟨g, 0, none⟩)] w (CntEnd w L (cnt ordC n t).isNone (cnt ordC n t)) := by
  obtain ⟨k, d, ⟨o, ⟨i1, p1, l1⟩, ⟨i2, p2, l2⟩⟩, ks, A1, n1, c1, A2, n2, c2, A3, n3, c3, A4, n4, c4, rfl, rfl⟩ := hs.form_
  dsimp only at hs ⊢
  generalize hT : (TG.mk k d ⟨o, ⟨i1, p1, l1⟩, ⟨i2, p2, l2⟩⟩ ks) = t at *
  have hb0 := below_new w (.cells #[.int .u8 k, .slice A1 n1 c1, .slice A2 n2 c2, .int .u8 o, .bool i1, .bool p1, .slice A3 n3 c3, .bool i2, .bool p2, .slice A4 n4 c4] 29)
  have hg1 : (w.alloc (.cells #[.int .u8 k, .slice A1 n1 c1, .slice A2 n2 c2, .int .u8 o, .bool i1, .bool p1, .slice A3 n3 c3, .bool i2, .bool p2, .slice A4 n4 c4] 29)).cell? ⟨g, 0, none⟩ = some (.func (.func 53) #[] #[.pointer (some ⟨L, 0, none⟩)]) := (hb0.cell hgl).trans hg
  have K := hid (H _ S _ L n (hs.old hb0) hf (hL.old hb0) hn hS)
  have HB := hid hb0
  clear hs hb0 H hg hL hS hT hf
  go_enter Tryz.func73, Tryz.ntmps73
  go_wp2_with (go_at_call 52; refine (K.out).mono ?_; rintro e w1 ⟨m, rfl, hl, hj, hgr⟩; have HJ := hid hj; have HLL := hid hl; clear hj hl)
  go_ret
  exact ⟨m, rfl, HLL.out, HJ.out, (grown_below HB.out _).trans hgr⟩
set_option maxHeartbeats 8000000 in
theorem pIndexT_any (ks : List TG) (IH : ∀ k ∈ ks, SomeT k) (g : Nat) (A : Option Addr) (n0 c : Nat) (w : World) (S : Nat → Prop) (L n : Nat) (hr : RowT w S ks A n0 c) (hf : fineL ks = true) (hL : LeftAt w L n) (hn : n ≤ 512) (hS : ∀ b, S b → b ≠ L) (hg : w.cell? ⟨g, 0, none⟩ = some (.func (.func 53) #[] #[.pointer (some ⟨L, 0, none⟩)])) (hgl : g < w.heap.size) (hgL : g ≠ L) :
    Calls Tryz.prog 90 #[.slice A n0 c, .func (.func 73) #[] #[.pointer (some ⟨g, 0, none⟩)]] w fun e w' => ∃ (r m : Int), e = .returned (.int .i64 r) ∧ decide (0 ≤ r) = (cntL ordC n ks).isNone ∧ LeftAt w' L m ∧ (∀ j, cntL ordC n ks = some j → m = j) ∧ w.grownBy w' (some L) := by
  obtain ⟨hk, hc, hm⟩ := hr.len
  have HR : Hid (∀ W, w.grownBy W (some L) → RowT W S ks A n0 c) := fun W hW => by
    obtain ⟨xs, h1, h2, h3, h4, h5⟩ := hr
    exact ⟨xs, h1, h2, h3, h4.grown (by omega) hW (fun b hb e => hS b hb (by injection e)), fun i t hi => (h5 i t hi).grown hW (fun b hb e => hS b hb (by injection e))⟩
  have HK := hid hk
  have HI := hid IH
  have HF := hid (fineL_mem hf)
  have HS := hid hS
  have HL := hid hL
  have HG : Hid (∀ W, w.grownBy W (some L) → W.cell? ⟨g, 0, none⟩ = some (.func (.func 53) #[] #[.pointer (some ⟨L, 0, none⟩)]) ∧ g < W.heap.size) := fun W hW => ⟨(World.cell?_of_block (hW.block g hgl (fun e => hgL (by injection e)))).trans hg, Nat.lt_of_lt_of_le hgl hW.size⟩
  clear hr hk IH hf hS hL hg hgl
  go_enter Tryz.func90, Tryz.ntmps90
  go_wp2_with fail
  go_loopw [8] (fun i wr => ∃ q m : Nat, q ≤ n0 ∧ i = .int .i64 q ∧ Hid (cntL ordC n (ks.take q) = some m ∧ m ≤ 512 ∧ LeftAt wr L m) ∧ w.grownBy wr (some L)) (fun i _ => n0 - (intOf i).toNat)
  case atStart => exact ⟨0, n, Nat.zero_le _, rfl, ⟨by rw [List.take_zero, cntL], hn, HL.out⟩, World.grownBy.refl _ _⟩
  case round =>
    obtain ⟨q, m, hqn, rfl, hcl, hgr⟩ := hrel
    by_cases hlt : q < n0
    · obtain ⟨ad, v0, v1, v2, v3, v4, v5, v6, v7, v8, v9, t, rfl, hS0, hks, hmem, hin, d0, d1, d2, d3, d4, d5, d6, d7, d8, d9⟩ := (HR.out _ hgr).at_ hlt
      obtain ⟨hg1, hg2⟩ := HG.out _ hgr
      have hlt' : (q : Int) < n0 := by omega
      have HTK := hid (cntL_take ordC hks n)
      have HBad := hid (fun h => cntL_bad ordC hks hcl.out.1 h)
      have K := pSome1_any t (HI.out t hmem) g wr S _ L m hin (HF.out t hmem) hcl.out.2.2 hcl.out.2.1 HS.out hg1 hg2
      rw [hcl.out.1] at HTK
      have HLE : Hid (∀ j, cnt ordC m t = some j → j ≤ 512) := fun j hj => by
        rw [cnt_spec] at hj
        split at hj
        · injection hj with hj; have := hcl.out.2.1; omega
        · cases hj
      obtain ⟨cc, hcc⟩ : ∃ b, b = cnt ordC m t := ⟨_, rfl⟩
      rw [← hcc] at K HBad HLE
      have HTK' : Hid (cntL ordC n (ks.take (q + 1)) = cc) := HTK.out.trans hcc.symm
      have K := hid K
      clear hS0 hks hmem hin hg1 hg2 HTK hcc
      cases cc with
      | none =>
        go_wp2_with (go_at_call 73; refine (K.out).mono ?_; rintro e w1 ⟨m1, rfl, hl, hj, hgr1⟩; have HLL := hid hl; clear hl hj)
        go_ret
        exact ⟨_, m1, rfl, by rw [HBad.out (by simp)]; simp, HLL.out, (fun j h => by rw [HBad.out (by simp)] at h; cases h), hgr.trans hgr1⟩
      | some j =>
        go_wp2_with (go_at_call 73; refine (K.out).mono ?_; rintro e w1 ⟨m1, rfl, hl, hj, hgr1⟩; obtain rfl := hj j rfl; have HLL := hid hl; clear hl hj)
        go_roundw
        case rel => exact ⟨q + 1, j, by omega, by go_num, ⟨HTK'.out, HLE.out j rfl, HLL.out⟩, hgr.trans hgr1⟩
        case measure => simp [intOf]; omega
    · obtain rfl : q = n0 := by omega
      have HALL : Hid (cntL ordC n ks = some m) := by
        have h := hcl.out.1
        rwa [List.take_of_length_le (by rw [HK.out]; exact Nat.le_refl _)] at h
      go_wp2_with fail
      go_ret
      exact ⟨_, m, rfl, by rw [HALL.out]; rfl, hcl.out.2.2, (fun j h => by rw [HALL.out] at h; injection h with h; omega), hgr⟩
set_option maxHeartbeats 4000000 in
theorem pContainsT_any (ks : List TG) (IH : ∀ k ∈ ks, SomeT k) (g : Nat) (A : Option Addr) (n0 c : Nat) (w : World) (S : Nat → Prop) (L n : Nat) (hr : RowT w S ks A n0 c) (hf : fineL ks = true) (hL : LeftAt w L n) (hn : n ≤ 512) (hS : ∀ b, S b → b ≠ L) (hg : w.cell? ⟨g, 0, none⟩ = some (.func (.func 53) #[] #[.pointer (some ⟨L, 0, none⟩)])) (hgl : g < w.heap.size) (hgL : g ≠ L) :
    Calls Tryz.prog 72 #[.slice A n0 c, .func (.func 73) #[] #[.pointer (some ⟨g, 0, none⟩)]] w (CntEnd w L (cntL ordC n ks).isNone (cntL ordC n ks)) := by
  have K := hid (pIndexT_any ks IH g A n0 c w S L n hr hf hL hn hS hg hgl hgL)
  clear hr hf hL hS hg hgl IH
  go_enter Tryz.func72, Tryz.ntmps72
  go_wp2_with (go_at_call 90; refine (K.out).mono ?_; rintro e w1 ⟨r, m, rfl, hr, hl, hj, hgr⟩; have HR := hid hr; have HLL := hid hl; have HJ := hid hj; clear hr hl hj)
  go_ret
  exact ⟨m, ret_bool HR.out, HLL.out, HJ.out, hgr⟩
set_option maxHeartbeats 8000000 in
theorem pSomeT_any (t : TG) : SomeT t := by
  induction t using TG.ind with
  | H k d r ks ih =>
    intro w S cs L n hs hf hL hn hS
    obtain ⟨o, ⟨i1, p1, l1⟩, ⟨i2, p2, l2⟩⟩ := r
    obtain ⟨_, _, _, _, A1, n1, c1, A2, n2, c2, A3, n3, c3, A4, n4, c4, e, rfl⟩ := hs.form_
    cases e
    dsimp only at hs ⊢
    have hLlt := hL.lt
    obtain ⟨w0, hw0⟩ : ∃ w0, w0 = ((w.alloc (.cells #[.int .u8 k, .slice A1 n1 c1, .slice A2 n2 c2, .int .u8 o, .bool i1, .bool p1, .slice A3 n3 c3, .bool i2, .bool p2, .slice A4 n4 c4] 29)).alloc (.cells #[.func (.func 53) #[] #[.pointer (some ⟨L, 0, none⟩)]] 38)) := ⟨_, rfl⟩
    have HB0 : Hid (Below w.heap.size w w0) := by
      show Below _ _ _
      rw [hw0]
      exact ((Below.refl w.heap.size w).alloc (Nat.le_refl _) _).alloc (by simp; try omega) _
    have hz0 : w0.heap.size = w.heap.size + 2 := by rw [hw0]; simp
    have B0 : Blk w0 w.heap.size 29 #[.int .u8 k, .slice A1 n1 c1, .slice A2 n2 c2, .int .u8 o, .bool i1, .bool p1, .slice A3 n3 c3, .bool i2, .bool p2, .slice A4 n4 c4] := by
      rw [hw0]
      exact (Blk.new w 29 #[.int .u8 k, .slice A1 n1 c1, .slice A2 n2 c2, .int .u8 o, .bool i1, .bool p1, .slice A3 n3 c3, .bool i2, .bool p2, .slice A4 n4 c4]).alloc _
    have B1 : Blk w0 (w.heap.size + 1) 38 #[.func (.func 53) #[] #[.pointer (some ⟨L, 0, none⟩)]] := by
      rw [hw0]
      have h := Blk.new (w.alloc (.cells #[.int .u8 k, .slice A1 n1 c1, .slice A2 n2 c2, .int .u8 o, .bool i1, .bool p1, .slice A3 n3 c3, .bool i2, .bool p2, .slice A4 n4 c4] 29)) 38 #[.func (.func 53) #[] #[.pointer (some ⟨L, 0, none⟩)]]
      simpa using h
    have hff : fineL ks = true := by
      rw [fineT] at hf
      simp only [Bool.and_eq_true] at hf
      exact hf.2
    have K1 := pAsk_any _ w0 S _ L n (hs.old HB0.out) hf (hL.old HB0.out) hn hS
    obtain ⟨ow, how⟩ : ∃ b, b = ownT (.mk k d ⟨o, ⟨i1, p1, l1⟩, ⟨i2, p2, l2⟩⟩ ks) := ⟨_, rfl⟩
    rw [← how] at K1
    have HC : Hid (cnt ordC n (.mk k d ⟨o, ⟨i1, p1, l1⟩, ⟨i2, p2, l2⟩⟩ ks) = if n = 0 ∨ ow = false then none else cntL ordC (n - 1) ks) := by
      show _ = _
      rw [cnt, how]; rfl
    have K2 : Hid (∀ W m, w0.grownBy W (some L) → LeftAt W L (m : Nat) → m ≤ 512 → Calls Tryz.prog 72 #[.slice A2 n2 c2, .func (.func 73) #[] #[.pointer (some ⟨w.heap.size + 1, 0, none⟩)]] W (CntEnd W L (cntL ordC m ks).isNone (cntL ordC m ks))) := fun W m hW hLm hm => by
      refine pContainsT_any ks ih (w.heap.size + 1) A2 n2 c2 W S L m ((hs.old HB0.out).grown hW (fun b hb e => hS b hb (by injection e))).rowT hff hLm hm hS ?_ ?_ (by omega)
      · exact ((B1.grown hW (fun e => by injection e with e; omega)).cell 0)
      · have := hW.size; omega
    have K3 : Hid (∀ W, w0.grownBy W (some L) → Blk W w.heap.size 29 #[.int .u8 k, .slice A1 n1 c1, .slice A2 n2 c2, .int .u8 o, .bool i1, .bool p1, .slice A3 n3 c3, .bool i2, .bool p2, .slice A4 n4 c4]) := fun W hW => B0.grown hW (fun e => by injection e with e; omega)
    have K1 := hid K1
    have x0 := B0.cell 0
    have x1 := B0.cell 1
    have x2 := B0.cell 2
    have x3 := B0.cell 3
    have x4 := B0.cell 4
    have x5 := B0.cell 5
    have x6 := B0.cell 6
    have x7 := B0.cell 7
    have x8 := B0.cell 8
    have x9 := B0.cell 9
    have y0 := B1.cell 0
    have hmf : ∀ (fn : Fn) (first cap : Array Value) (w : World), (Instr.makeFunc fn first cap).run Tryz.prog w = .ok (.func fn first cap) w := fun _ _ _ _ => rfl
    have HN := hid hn
    clear hs ih hf hff hL hS how B0 B1
    go_enter Tryz.func52, Tryz.ntmps52
    go_upto_region 1 with fail
    rw [← hw0]
    clear hw0
    obtain ⟨oo, hoo⟩ : ∃ x, x = oneT n ow := ⟨_, rfl⟩
    rw [← hoo] at K1
    have HOO := hid hoo
    clear hoo
    cases oo with
    | none =>
      have HC' : Hid (cnt ordC n (.mk k d ⟨o, ⟨i1, p1, l1⟩, ⟨i2, p2, l2⟩⟩ ks) = none) := by
        show _ = _
        rw [HC.out]
        have h := HOO.out
        unfold oneT at h
        split at h
        · rename_i hc; rw [if_pos hc]
        · cases h
      go_wp2_with (go_at_call 53; refine (K1.out).mono ?_; rintro e w1 ⟨m1, rfl, hl, hj, hgr1⟩; have HLL := hid hl; clear hl hj)
      go_ret
      exact ⟨m1, ret_bool (by rw [HC'.out]; rfl), HLL.out, (fun j h => by rw [HC'.out] at h; cases h), (grown_below HB0.out _).trans hgr1⟩
    | some m =>
      have HC' : Hid (cnt ordC n (.mk k d ⟨o, ⟨i1, p1, l1⟩, ⟨i2, p2, l2⟩⟩ ks) = cntL ordC m ks ∧ m ≤ 512) := by
        show _ ∧ _
        rw [HC.out]
        have h := HOO.out
        unfold oneT at h
        split at h
        · cases h
        · rename_i hc
          injection h with h
          rw [if_neg hc, ← h]
          exact ⟨rfl, by have := HN.out; omega⟩
      obtain ⟨cc, hcc⟩ : ∃ x, x = cntL ordC m ks := ⟨_, rfl⟩
      have HCC := hid hcc
      clear hcc
      go_wp2_with first
        | (go_at_call 53; refine (K1.out).mono ?_; rintro e w1 ⟨m1, rfl, hl, hj, hgr1⟩; obtain rfl := hj m rfl; have HLL := hid hl; clear hl hj; have z2 := (K3.out _ hgr1).cell 2)
        | (go_at_call 72; refine (K2.out w1 m hgr1 HLL.out HC'.out.2).mono ?_; rintro e w2 ⟨m2, rfl, hl2, hj2, hgr2⟩; have HL2 := hid hl2; have HJ2 := hid hj2; clear hl2 hj2)
      go_ret
      exact ⟨m2, ret_bool (by rw [HC'.out.1]), HL2.out, (fun j h => HJ2.out j (by rw [← HC'.out.1]; exact h)), (grown_below HB0.out _).trans (hgr1.trans hgr2)⟩
end Go.Proofs.YtinlonpcakkfhaaGreatDoor
end
section
set_option maxRecDepth 100000
namespace Go.Proofs.YtinlonpcakkfhaaGreatDoor
open Go Go.Proofs Go.RowKit Sx _root_.Ord11 Go.Proofs.YtinlonpcakkfhaaGreatDoor.Ord11 _root_.Tag12 Sch
def OrdT (w : World) : Prop := w.var? Tryz.prog "greffier/tag.orders" = some #[.string ⟨#[]⟩, .string ⟨#[97, 108, 112, 104, 97]⟩, .string ⟨#[110, 117, 109, 101, 114, 105, 99]⟩, .string ⟨#[116, 105, 109, 101]⟩, .string ⟨#[98, 105, 110, 97, 114, 121]⟩, .string ⟨#[100, 97, 116, 101]⟩]
theorem ordAt : Tryz.prog.globalNamed "greffier/tag.orders" = some 0 := by kernel_rfl
theorem OrdT.blk {w : World} (h : OrdT w) : ∃ t z, w.heap[(0 : Nat)]? = some (.cells #[.string ⟨#[]⟩, .string ⟨#[97, 108, 112, 104, 97]⟩, .string ⟨#[110, 117, 109, 101, 114, 105, 99]⟩, .string ⟨#[116, 105, 109, 101]⟩, .string ⟨#[98, 105, 110, 97, 114, 121]⟩, .string ⟨#[100, 97, 116, 101]⟩] t z) := by
  unfold OrdT World.var? at h
  rw [ordAt] at h
  simp only [Option.bind_some] at h
  split at h
  · rename_i cs t z hh
    injection h with h
    subst h
    exact ⟨t, z, hh⟩
  · cases h
theorem OrdT.lt {w : World} (h : OrdT w) : 0 < w.heap.size := by
  obtain ⟨t, z, h⟩ := h.blk
  rcases Nat.lt_or_ge 0 w.heap.size with h' | h'
  · exact h'
  · rw [Array.getElem?_eq_none h'] at h; cases h
theorem OrdT.old {w w' : World} (h : OrdT w) (hb : Below w.heap.size w w') : OrdT w' := by
  have hlt := h.lt
  unfold OrdT at h ⊢
  rw [← h]
  unfold World.var?
  rw [ordAt]
  simp only [Option.bind_some]
  rw [hb.block _ hlt]
theorem OrdT.cell {w : World} (h : OrdT w) {o : Nat} (ho : o < 6) : w.cell? ⟨0, o, none⟩ = some (.string (bT (nameW o))) := by
  obtain ⟨t, z, hh⟩ := h.blk
  rw [Lib.cell_of_heap hh]
  have : o = 0 ∨ o = 1 ∨ o = 2 ∨ o = 3 ∨ o = 4 ∨ o = 5 := by omega
  rcases this with rfl | rfl | rfl | rfl | rfl | rfl <;> rfl
theorem pAtom_sx {Sd : Nat → Prop} {B : Nat} (l : List UInt8) (w : World) (hl : l.length ≤ 140737488355328) (hB : B ≤ w.heap.size) :
    Calls Tryz.prog 26 #[.string (bT l)] w fun e w' => ∃ v, e = .returned v ∧ SxV Sd B (atom l) v w' ∧ Below w.heap.size w w' := by
  refine (atom_any (bT l) w (by rw [bT_size]; exact hl)).mono ?_
  rintro e w' ⟨v0, v1, v2, v3, v4, rfl, hin, hb⟩
  exact ⟨_, rfl, ⟨v0, v1, v2, v3, v4, rfl, by have h := hin.more (S' := fun b => Sd b ∨ B ≤ b) fun b hb => .inr (by omega); rw [bT_data] at h; exact h⟩, hb⟩
theorem infoSx5 : (Tryz.prog.info? 34).map (·.size) = some 5 := by kernel_rfl
theorem sxv_list {Sd : Nat → Prop} {B : Nat} {ks : List SX} {v : Value} {w : World} (h : SlS Sd B ks v w) : SxV Sd B (list ks) (.agg #[.bool true, .bool false, .slice none 0 0, .slice none 0 0, v]) w := by
  obtain ⟨A, n, c, xs, rfl, h1, h2, h3, h4, h5⟩ := h
  exact ⟨_, _, _, _, _, rfl, .mk RIn.none_ ⟨Nat.le_refl _, by omega⟩ RIn.none_ ⟨Nat.le_refl _, by omega⟩ (h4.more fun b hb => .inr hb) ⟨h1, h2⟩ h3 h5⟩
set_option maxHeartbeats 2000000 in
theorem pList_any {Sd : Nat → Prop} {B : Nat} {ks : List SX} {v : Value} {w : World} (h : SlS Sd B ks v w) :
    Calls Tryz.prog 76 #[v] w fun e w' => ∃ v', e = .returned v' ∧ SxV Sd B (list ks) v' w' ∧ Below w.heap.size w w' := by
  obtain ⟨A, n, c, hv⟩ : ∃ A n c, v = .slice A n c := by
    obtain ⟨A, n, c, xs, e, _⟩ := h
    exact ⟨A, n, c, e⟩
  subst hv
  have hb := below_new w (.cells #[.bool true, .bool false, .slice none 0 0, .slice none 0 0, .slice A n c] 34)
  have H := hid (And.intro (sxv_list (h.old hb)) hb)
  clear h hb
  go_enter Tryz.func76, Tryz.ntmps76
  go_wp2_with fail
  exact bodyPost_ret (v := .agg #[.bool true, .bool false, .slice none 0 0, .slice none 0 0, .slice A n c]) (results_cell_row Tryz.results76 _ _ w.heap.size 34 #[.bool true, .bool false, .slice none 0 0, .slice none 0 0, .slice A n c] (0, 0) _ rfl (Blk.new w _ _) Tryz.underlying34 rfl infoSx5) rfl ⟨_, rfl, H.out.1, H.out.2⟩
theorem slo_lit {Sd : Nat → Prop} {B : Nat} {V : World} {ks : List SX} {xs : List Value} (hB : B ≤ V.heap.size) (hl : xs.length = ks.length * 5) (hn : ks.length ≤ 1000) (hk : Kids V (fun b => Sd b ∨ B ≤ b) ks xs) :
    SlO Sd B ks (.slice (some ⟨V.heap.size, 0, none⟩) ks.length ks.length) (V.alloc (.cells xs.toArray 34)) := by
  refine ⟨ks.length, xs, rfl, ⟨hl, .inr ⟨V.heap.size, ks.length, xs.toArray, rfl, hB, heap_alloc_new V _, Nat.le_refl _, by unfold maxLen; omega, by simpa using hl, ?_⟩⟩, fun i t hi => ?_⟩
  · simp only
    rw [← hl]
    exact List.take_length
  · refine (((hk i t hi).size_).old (below_new V _)).more fun b hb => ⟨hb.1, fun e => ?_⟩
    have e : some b = some V.heap.size := e
    injection e with e
    have := hb.2
    omega
theorem slo_none {Sd : Nat → Prop} {B : Nat} {V : World} : SlO Sd B [] (.slice none 0 0) V := ⟨0, [], rfl, ⟨rfl, .inl ⟨rfl, rfl⟩⟩, fun i t h => by simp at h⟩
theorem SlO.form {Sd : Nat → Prop} {B : Nat} {ks : List SX} {v : Value} {w : World} (h : SlO Sd B ks v w) : ∃ A n c, v = .slice A n c := by
  obtain ⟨n, xs, h1, h2, h3⟩ := h
  rcases h2.2 with ⟨rfl, _⟩ | ⟨g, cap, cur, rfl, _⟩
  · exact ⟨_, _, _, rfl⟩
  · exact ⟨_, _, _, rfl⟩
set_option maxHeartbeats 8000000 in
theorem pAppendEnd (i p : Bool) (l : List UInt8) (wd : UInt8) (A : Option Addr) (n c : Nat) (S0 Sd : Nat → Prop) (B : Nat) (ks : List SX) (v : Value) (w : World) (hB : B ≤ w.heap.size) (hS : ∀ b, S0 b → Sd b ∧ b < B) (ho : SlO Sd B ks v w) (hks : ks.length ≤ 100) (hr : RIn w S0 1 A n (Lib.byteCells l)) (hc : n ≤ c) (hn : n ≤ 140737488355328) :
    Calls Tryz.prog 93 #[v, .string (bT [wd]), .agg #[.bool i, .bool p, .slice A n c]] w fun e w' => ∃ v', e = .returned v' ∧ SlO Sd B (ks ++ boundV ⟨i, p, l⟩ wd) v' w' ∧ Below B w w' := by
  obtain ⟨Av, nv, cv, hv⟩ := ho.form
  subst hv
  obtain ⟨w0, hw0⟩ : ∃ w0, w0 = (w.alloc (.cells #[.bool i, .bool p, .slice A n c] 25)) := ⟨_, rfl⟩
  have HB0 : Hid (Below w.heap.size w w0) := by
    show Below _ _ _
    rw [hw0]
    exact (Below.refl w.heap.size w).alloc (Nat.le_refl _) _
  have B0 : Blk w0 w.heap.size 25 #[.bool i, .bool p, .slice A n c] := by
    rw [hw0]
    exact Blk.new w 25 #[.bool i, .bool p, .slice A n c]
  have X0 : Hid (∀ W, Below w0.heap.size w0 W → ∀ kx u, (#[.bool i, .bool p, .slice A n c] : Array Value)[kx]? = some u → W.cell? ⟨w.heap.size, kx, none⟩ = some u) := fun W hW kx u hk => cell_below hW ((B0.cell kx).trans hk) B0.lt
  have HR : Below w0.heap.size w0 w0 := Below.refl _ _
  clear B0
  have HRD := hid (hr.old (by omega) HB0.out)
  have HO := hid (ho.old HB0.out)
  have hB0 : B ≤ w0.heap.size := Nat.le_trans hB HB0.out.size
  have HBB := hid (HB0.out.mono hB)
  have hws : (bT [wd] ++ (⟨#[101]⟩ : ByteArray)) = bT [wd, 101] := by apply ByteArray.ext; simp [bT]
  have hsz : (bT [wd]).size = 1 := by rw [bT_size]; rfl
  generalize hbw : bT [wd] = BW at hws hsz ⊢
  have HWS := hid hws
  have HBW := hid hbw
  have HS := hid hS
  have HKS := hid hks
  obtain ⟨ib, hib, hzb0, hzb1, hzb2⟩ := info_parts infoSexp
  have HIB := hid hib
  clear hib hr ho hws hbw hS hks
  go_enter Tryz.func93, Tryz.ntmps93
  go_upto_region 1 with fail
  rw [← hw0]
  clear hw0
  have x0_0 := X0.out _ HR 0 _ rfl
  have x0_1 := X0.out _ HR 1 _ rfl
  have x0_2 := X0.out _ HR 2 _ rfl
  cases i with
  | false =>
    go_wp2_with fail
    go_ret
    exact ⟨_, rfl, by rw [show boundV ⟨false, p, l⟩ wd = [] from rfl, List.append_nil]; exact HO.out, HBB.out⟩
  | true =>
    have hwl : (wordB p wd).length ≤ 140737488355328 := by cases p <;> simp [wordB]
    have HW1 : Hid (if p then BW = bT (wordB p wd) else BW ++ (⟨#[101]⟩ : ByteArray) = bT (wordB p wd)) := by
      cases p
      · exact HWS.out
      · exact HBW.out.symm
    have HBV : Hid (boundV ⟨true, p, l⟩ wd = [atom (wordB p wd), atom l]) := rfl
    generalize wordB p wd = W1 at hwl HW1 HBV
    cases p
    case false =>
      go_upto_region 5 with fail
      have hw1 := HW1.out
      simp only [if_true, Bool.false_eq_true, if_false] at hw1
      rw [hw1]
      clear hw1
      try simp only [Act.put]
      refine wp_R [16, 17, 18, 19, 20, 21, 22] [Rk.val (.slice Av nv cv), Rk.val (.string (bT W1)), Rk.is (fun v V => SxV S0 w0.heap.size (atom W1) v V) (fun _ _ _ h hb => h.old hb), Rk.val (.pointer (some ⟨w.heap.size, 2, none⟩)), Rk.val (.slice A n c), Rk.val (.agg #[.bool false, .bool false, .slice none 0 0, .slice A n c, .slice none 0 0]), Rk.is (fun v V => SlS S0 w0.heap.size [atom W1, atom l] v V) (fun _ _ _ h hb => h.old hb)] rfl (by kernel_rfl) (by kernel_rfl) (by kernel_rfl) (by kernel_rfl) ?hgfalse _ (by rfl) ?hffalse
      case hgfalse =>
        refine gr_val rfl (by kernel_rfl) (fun a V H K Q hK => op_quiet (quiet_move (.tmp 0) (H.old 0 (by kernel_rfl) (by kernel_rfl)) (.inl (by kernel_rfl))) hK) ?_
        refine gr_val rfl (by kernel_rfl) (fun a V H K Q hK => op_quiet (quiet_move (.tmp 1) (H.old 1 (by kernel_rfl) (by kernel_rfl)) (.inl (by kernel_rfl))) hK) ?_
        refine gr_is rfl (by kernel_rfl) (fun a V H K Q hK => op_callR #[.tmp 17] #[.string (bT W1)] (by kernel_rfl) (by kernel_rfl) (by kernel_rfl) (map1 (H.rel 1 17 (by kernel_rfl) (by kernel_rfl) rfl)) (pAtom_sx W1 V hwl H.frame.size) (by kernel_rfl) hK) ?_
        refine gr_val rfl (by kernel_rfl) (fun a V H K Q hK => op_quiet (quiet_fld _ (.tmp 5) 2 _ _ (H.old 5 (by kernel_rfl) (by kernel_rfl)) (fB2 _ 0) (by kernel_rfl)) hK) ?_
        refine gr_val rfl (by kernel_rfl) (fun a V H K Q hK => op_quiet (quiet_cell _ (.tmp 19) _ (H.rel 3 19 (by kernel_rfl) (by kernel_rfl) rfl) Tryz.underlying22 rfl (X0.out _ H.frame 2 _ rfl) (by kernel_rfl)) hK) ?_
        refine gr_val rfl (by kernel_rfl) (fun a V H K Q hK => op_quiet (quiet_bld 34 _ _ (bld1 (a := 3) (H.rel 4 20 (by kernel_rfl) (by kernel_rfl) rfl)) #[.bool false, .bool false, .slice none 0 0, .slice A n c, .slice none 0 0] (by kernel_rfl) (by kernel_rfl)) hK) ?_
        refine gr_is rfl (by kernel_rfl) (fun a V H K Q hK => by
            obtain ⟨v0, v1, v2, v3, v4, e18, h18⟩ := (show SxV S0 w0.heap.size (atom W1) (a.eval (.tmp 18)) V from (H.rel 2 18 (by kernel_rfl) (by kernel_rfl) rfl))
            refine op_sx2 (.tmp 18) (.tmp 21) e18 (H.rel 5 21 (by kernel_rfl) (by kernel_rfl) rfl) (by kernel_rfl) (hK _ _ (below_new _ _) ?_)
            exact sls_lit2 H.frame.size h18 (sIn_atomD (HRD.out.old (by omega) H.frame) hc hn)) ?_
        exact gr_nil
      case hffalse =>
        intro x V hF
        have ev0 : x 0 = .slice Av nv cv := hF.rel 0 _ rfl
        have ev1 : x 1 = .string (bT W1) := hF.rel 1 _ rfl
        have rv2 := hF.rel 2 _ rfl
        generalize hy2 : x 2 = y2 at rv2 ⊢
        have ev3 : x 3 = .pointer (some ⟨w.heap.size, 2, none⟩) := hF.rel 3 _ rfl
        have ev4 : x 4 = .slice A n c := hF.rel 4 _ rfl
        have ev5 : x 5 = .agg #[.bool false, .bool false, .slice none 0 0, .slice A n c, .slice none 0 0] := hF.rel 5 _ rfl
        have rv6 := hF.rel 6 _ rfl
        generalize hy6 : x 6 = y6 at rv6 ⊢
        have hbf := hF.frame
        clear hF
        simp only [Sch.finL, zA, zB, zC, ev0, ev1, hy2, ev3, ev4, ev5, hy6]
        clear ev0 ev1 hy2 ev3 ev4 ev5 hy6
        have HBF := hid hbf
        obtain ⟨AB, nB, cB, xsB, eB, qc, qn, ql, qr, qk⟩ := rv6
        subst eB
        obtain ⟨nA, xsA, hlA, hownW, hkW⟩ := HO.out.old hbf
        have HLA := hid hlA
        have HOW := hid hownW
        have HKW := hid hkW
        have hnA : nA ≤ 100 := by have := HKS.out; omega
        have hnB : nB = 2 := ql.symm
        have HQ := hid qk
        have hqr := qr.reads (by omega)
        have hone := one_cells (qr.more (S' := fun b => S0 b ∨ w0.heap.size ≤ b) fun _ h => .inr h) ql qk
        have hVs : w0.heap.size ≤ V.heap.size := hbf.size
        clear rv2 hbf hlA hownW hkW qk ql qr
        refine wpList_append_any _ rfl (.tmp 16) (.tmp 22) 32 rfl B 34 ib _ 5 80 Tryz.underlying32 HIB.out hzb0 hzb1 hzb2 rfl (by omega) _ nA xsA rfl HOW.out _ AB nB cB xsB rfl hqr hone (by unfold maxLen; omega) (by omega) (by omega) ?_
        intro v' V3 hown' hgr hbl
        have HNEW : Hid (SlO Sd B (ks ++ [atom W1, atom l]) v' V3) := slo_app (S0 := S0) (B2 := w0.heap.size) HLA.out HOW.out (fun i t hi => HKW.out i t hi) (m := nB) (by rw [hnB]; rfl) HQ.out HS.out hB0 (fun b hb => by
          obtain ⟨n9, xs9, _, h9, _⟩ := HO.out
          exact (h9.lt b hb).2) hown' hgr hbl
        have HB3 : Hid (Below B w V3) := (HBB.out.trans (HBF.out.mono hB0)).grown hgr (by omega) (fun b hb => (HOW.out.lt b hb).1)
        clear hown' hgr hbl
        go_wp2_with fail
        go_ret
        exact ⟨_, rfl, by rw [HBV.out]; exact HNEW.out, HB3.out⟩
    case true =>
      go_upto_region 5 with fail
      have hw1 := HW1.out
      simp only [if_true, Bool.false_eq_true, if_false] at hw1
      rw [hw1]
      clear hw1
      try simp only [Act.put]
      refine wp_R [16, 17, 18, 19, 20, 21, 22] [Rk.val (.slice Av nv cv), Rk.val (.string (bT W1)), Rk.is (fun v V => SxV S0 w0.heap.size (atom W1) v V) (fun _ _ _ h hb => h.old hb), Rk.val (.pointer (some ⟨w.heap.size, 2, none⟩)), Rk.val (.slice A n c), Rk.val (.agg #[.bool false, .bool false, .slice none 0 0, .slice A n c, .slice none 0 0]), Rk.is (fun v V => SlS S0 w0.heap.size [atom W1, atom l] v V) (fun _ _ _ h hb => h.old hb)] rfl (by kernel_rfl) (by kernel_rfl) (by kernel_rfl) (by kernel_rfl) ?hgtrue _ (by rfl) ?hftrue
      case hgtrue =>
        refine gr_val rfl (by kernel_rfl) (fun a V H K Q hK => op_quiet (quiet_move (.tmp 0) (H.old 0 (by kernel_rfl) (by kernel_rfl)) (.inl (by kernel_rfl))) hK) ?_
        refine gr_val rfl (by kernel_rfl) (fun a V H K Q hK => op_quiet (quiet_move (.tmp 1) (H.old 1 (by kernel_rfl) (by kernel_rfl)) (.inl (by kernel_rfl))) hK) ?_
        refine gr_is rfl (by kernel_rfl) (fun a V H K Q hK => op_callR #[.tmp 17] #[.string (bT W1)] (by kernel_rfl) (by kernel_rfl) (by kernel_rfl) (map1 (H.rel 1 17 (by kernel_rfl) (by kernel_rfl) rfl)) (pAtom_sx W1 V hwl H.frame.size) (by kernel_rfl) hK) ?_
        refine gr_val rfl (by kernel_rfl) (fun a V H K Q hK => op_quiet (quiet_fld _ (.tmp 5) 2 _ _ (H.old 5 (by kernel_rfl) (by kernel_rfl)) (fB2 _ 0) (by kernel_rfl)) hK) ?_
        refine gr_val rfl (by kernel_rfl) (fun a V H K Q hK => op_quiet (quiet_cell _ (.tmp 19) _ (H.rel 3 19 (by kernel_rfl) (by kernel_rfl) rfl) Tryz.underlying22 rfl (X0.out _ H.frame 2 _ rfl) (by kernel_rfl)) hK) ?_
        refine gr_val rfl (by kernel_rfl) (fun a V H K Q hK => op_quiet (quiet_bld 34 _ _ (bld1 (a := 3) (H.rel 4 20 (by kernel_rfl) (by kernel_rfl) rfl)) #[.bool false, .bool false, .slice none 0 0, .slice A n c, .slice none 0 0] (by kernel_rfl) (by kernel_rfl)) hK) ?_
        refine gr_is rfl (by kernel_rfl) (fun a V H K Q hK => by
            obtain ⟨v0, v1, v2, v3, v4, e18, h18⟩ := (show SxV S0 w0.heap.size (atom W1) (a.eval (.tmp 18)) V from (H.rel 2 18 (by kernel_rfl) (by kernel_rfl) rfl))
            refine op_sx2 (.tmp 18) (.tmp 21) e18 (H.rel 5 21 (by kernel_rfl) (by kernel_rfl) rfl) (by kernel_rfl) (hK _ _ (below_new _ _) ?_)
            exact sls_lit2 H.frame.size h18 (sIn_atomD (HRD.out.old (by omega) H.frame) hc hn)) ?_
        exact gr_nil
      case hftrue =>
        intro x V hF
        have ev0 : x 0 = .slice Av nv cv := hF.rel 0 _ rfl
        have ev1 : x 1 = .string (bT W1) := hF.rel 1 _ rfl
        have rv2 := hF.rel 2 _ rfl
        generalize hy2 : x 2 = y2 at rv2 ⊢
        have ev3 : x 3 = .pointer (some ⟨w.heap.size, 2, none⟩) := hF.rel 3 _ rfl
        have ev4 : x 4 = .slice A n c := hF.rel 4 _ rfl
        have ev5 : x 5 = .agg #[.bool false, .bool false, .slice none 0 0, .slice A n c, .slice none 0 0] := hF.rel 5 _ rfl
        have rv6 := hF.rel 6 _ rfl
        generalize hy6 : x 6 = y6 at rv6 ⊢
        have hbf := hF.frame
        clear hF
        simp only [Sch.finL, zA, zB, zC, ev0, ev1, hy2, ev3, ev4, ev5, hy6]
        clear ev0 ev1 hy2 ev3 ev4 ev5 hy6
        have HBF := hid hbf
        obtain ⟨AB, nB, cB, xsB, eB, qc, qn, ql, qr, qk⟩ := rv6
        subst eB
        obtain ⟨nA, xsA, hlA, hownW, hkW⟩ := HO.out.old hbf
        have HLA := hid hlA
        have HOW := hid hownW
        have HKW := hid hkW
        have hnA : nA ≤ 100 := by have := HKS.out; omega
        have hnB : nB = 2 := ql.symm
        have HQ := hid qk
        have hqr := qr.reads (by omega)
        have hone := one_cells (qr.more (S' := fun b => S0 b ∨ w0.heap.size ≤ b) fun _ h => .inr h) ql qk
        have hVs : w0.heap.size ≤ V.heap.size := hbf.size
        clear rv2 hbf hlA hownW hkW qk ql qr
        refine wpList_append_any _ rfl (.tmp 16) (.tmp 22) 32 rfl B 34 ib _ 5 80 Tryz.underlying32 HIB.out hzb0 hzb1 hzb2 rfl (by omega) _ nA xsA rfl HOW.out _ AB nB cB xsB rfl hqr hone (by unfold maxLen; omega) (by omega) (by omega) ?_
        intro v' V3 hown' hgr hbl
        have HNEW : Hid (SlO Sd B (ks ++ [atom W1, atom l]) v' V3) := slo_app (S0 := S0) (B2 := w0.heap.size) HLA.out HOW.out (fun i t hi => HKW.out i t hi) (m := nB) (by rw [hnB]; rfl) HQ.out HS.out hB0 (fun b hb => by
          obtain ⟨n9, xs9, _, h9, _⟩ := HO.out
          exact (h9.lt b hb).2) hown' hgr hbl
        have HB3 : Hid (Below B w V3) := (HBB.out.trans (HBF.out.mono hB0)).grown hgr (by omega) (fun b hb => (HOW.out.lt b hb).1)
        clear hown' hgr hbl
        go_wp2_with fail
        go_ret
        exact ⟨_, rfl, by rw [HBV.out]; exact HNEW.out, HB3.out⟩
theorem ix_ord (o : Nat) (ho : o ≤ 5) : ∀ W, (Instr.indexAt 96 (.pointer (some ⟨0, 0, none⟩)) (.int .u8 o)).run Tryz.prog W = .ok (.pointer (some ⟨0, o, none⟩)) W := by
  have : o = 0 ∨ o = 1 ∨ o = 2 ∨ o = 3 ∨ o = 4 ∨ o = 5 := by omega
  clear ho
  rcases this with h | h | h | h | h | h
  all_goals subst h
  all_goals intro W
  all_goals kernel_rfl
section
variable {P : Program} {o : Oper} {ev : Operand → Value} {w : World}
theorem quiet_ixa (s : TypeId) (x y : Operand) (v u z : Value) (hx : ev x = v) (hy : ev y = u) (hr : ∀ W, (Instr.indexAt s v u).run P W = .ok z W) (ho : o.op = .indexAddr s x y) : (execOp ev o).run P w = .ok (.value z) w := by
  unfold execOp
  simp only [ho, hx, hy]
  simp [hr, Result.andThen]
end
set_option maxHeartbeats 8000000 in
theorem pWriteRange (r : Rg) (S : Nat → Prop) {A3 A4 : Option Addr} {n3 c3 n4 c4 : Nat} (w : World) (ho1 : r.o ≤ 5) (ht : OrdT w) (h3 : RIn w S 1 A3 n3 (Lib.byteCells r.lo.at_)) (b3 : n3 ≤ c3 ∧ n3 ≤ 140737488355328) (h4 : RIn w S 1 A4 n4 (Lib.byteCells r.hi.at_)) (b4 : n4 ≤ c4 ∧ n4 ≤ 140737488355328) :
    Calls Tryz.prog 78 #[.agg #[.int .u8 r.o, .bool r.lo.is, .bool r.lo.op, .slice A3 n3 c3, .bool r.hi.is, .bool r.hi.op, .slice A4 n4 c4]] w fun e w' => ∃ v, e = .returned v ∧ SxV S w.heap.size (list (atom star :: atom rangW :: atom (nameW r.o) :: (boundV r.lo 103 ++ boundV r.hi 108))) v w' ∧ Below w.heap.size w w' := by
  obtain ⟨o, ⟨i1, p1, l1⟩, ⟨i2, p2, l2⟩⟩ := r
  dsimp only at h3 h4 ho1 ⊢
  obtain ⟨w0, hw0⟩ : ∃ w0, w0 = ((w.alloc (.cells #[.int .u8 o, .bool i1, .bool p1, .slice A3 n3 c3, .bool i2, .bool p2, .slice A4 n4 c4] 27)).alloc (.cells #[.bool false, .bool false, .slice none 0 0, .slice none 0 0, .slice none 0 0] 34)) := ⟨_, rfl⟩
  have HB0 : Hid (Below w.heap.size w w0) := by
    show Below _ _ _
    rw [hw0]
    exact ((Below.refl w.heap.size w).alloc (Nat.le_refl _) _).alloc (by simp; try omega) _
  have B0 : Blk w0 w.heap.size 27 #[.int .u8 o, .bool i1, .bool p1, .slice A3 n3 c3, .bool i2, .bool p2, .slice A4 n4 c4] := by
    rw [hw0]
    exact (Blk.new w 27 #[.int .u8 o, .bool i1, .bool p1, .slice A3 n3 c3, .bool i2, .bool p2, .slice A4 n4 c4]).alloc (.cells #[.bool false, .bool false, .slice none 0 0, .slice none 0 0, .slice none 0 0] 34)
  have X0 : Hid (∀ W, Below w0.heap.size w0 W → ∀ kx u, (#[.int .u8 o, .bool i1, .bool p1, .slice A3 n3 c3, .bool i2, .bool p2, .slice A4 n4 c4] : Array Value)[kx]? = some u → W.cell? ⟨w.heap.size, kx, none⟩ = some u) := fun W hW kx u hk => cell_below hW ((B0.cell kx).trans hk) B0.lt
  have B1 : Blk w0 (w.heap.size + 1) 34 #[.bool false, .bool false, .slice none 0 0, .slice none 0 0, .slice none 0 0] := by
    rw [hw0]
    have h := Blk.new (w.alloc (.cells #[.int .u8 o, .bool i1, .bool p1, .slice A3 n3 c3, .bool i2, .bool p2, .slice A4 n4 c4] 27)) 34 #[.bool false, .bool false, .slice none 0 0, .slice none 0 0, .slice none 0 0]
    simpa using h
  have X1 : Hid (∀ W, Below w0.heap.size w0 W → ∀ kx u, (#[.bool false, .bool false, .slice none 0 0, .slice none 0 0, .slice none 0 0] : Array Value)[kx]? = some u → W.cell? ⟨(w.heap.size + 1), kx, none⟩ = some u) := fun W hW kx u hk => cell_below hW ((B1.cell kx).trans hk) B1.lt
  have HR : Below w0.heap.size w0 w0 := Below.refl _ _
  have hz0 : w0.heap.size = w.heap.size + 2 := by rw [hw0]; simp
  have HBW0 := HB0.out
  obtain ⟨S0, hS0⟩ : ∃ S0 : Nat → Prop, S0 = fun b => S b ∧ b < w.heap.size := ⟨_, rfl⟩
  have R3 : Hid (RIn w0 S0 1 A3 n3 (Lib.byteCells l1)) := by show RIn _ _ _ _ _ _; rw [hS0]; exact (h3.size_ (by omega)).old (by omega) HBW0
  have R4 : Hid (RIn w0 S0 1 A4 n4 (Lib.byteCells l2)) := by show RIn _ _ _ _ _ _; rw [hS0]; exact (h4.size_ (by omega)).old (by omega) HBW0
  have HS0 : Hid (∀ b, S0 b → S b ∧ b < w.heap.size) := fun b hb => by rw [hS0] at hb; exact hb
  have HSB : Hid (∀ b, S0 b → S0 b ∧ b < w0.heap.size) := fun b hb => ⟨hb, by have := (HS0.out b hb).2; omega⟩
  have HT : Hid (OrdT w0) := ht.old HBW0
  have B1 := hid B1
  have HC : Hid (∀ V, Below w0.heap.size w0 V → V.cell? ⟨0, o, none⟩ = some (.string (bT (nameW o)))) := fun V hV => (HT.out.old hV).cell (by omega)
  have hnw : (nameW o).length ≤ 140737488355328 := by
    unfold nameW
    repeat' split
    all_goals simp
  have HIX : Hid (∀ W, (Instr.indexAt 96 (.pointer (some ⟨0, 0, none⟩)) (.int .u8 o)).run Tryz.prog W = .ok (.pointer (some ⟨0, o, none⟩)) W) := ix_ord o ho1
  have hbl1 : (boundV ⟨i1, p1, l1⟩ 103).length ≤ 2 := by cases i1 <;> simp [boundV]
  have hbl2 : (boundV ⟨i2, p2, l2⟩ 108).length ≤ 2 := by cases i2 <;> simp [boundV]
  have HBL1 := hid hbl1
  have HBL2 := hid hbl2
  have HEQ : Hid (list (atom star :: atom rangW :: atom (nameW o) :: (boundV ⟨i1, p1, l1⟩ 103 ++ boundV ⟨i2, p2, l2⟩ 108)) = list (([atom star, atom rangW, atom (nameW o)] ++ boundV ⟨i1, p1, l1⟩ 103) ++ boundV ⟨i2, p2, l2⟩ 108)) := by show _ = _; rw [List.append_assoc]; rfl
  rw [HEQ.out]
  generalize nameW o = nw at hnw HC
  have HWN : Hid (nw.length ≤ 140737488355328) := hnw
  have HW1 : Hid (star.length ≤ 140737488355328) := by show _ ≤ _; decide
  have HW2 : Hid (rangW.length ≤ 140737488355328) := by show _ ≤ _; decide
  clear h3 h4 hS0 hbl1 hbl2 HEQ ht B0
  go_enter Tryz.func78, Tryz.ntmps78
  go_upto_region 1 with fail
  rw [← hw0]
  clear hw0
  have x0_0 := X0.out _ HR 0 _ rfl
  have x0_1 := X0.out _ HR 1 _ rfl
  have x0_2 := X0.out _ HR 2 _ rfl
  have x0_3 := X0.out _ HR 3 _ rfl
  have x0_4 := X0.out _ HR 4 _ rfl
  have x0_5 := X0.out _ HR 5 _ rfl
  have x0_6 := X0.out _ HR 6 _ rfl
  have x1_0 := X1.out _ HR 0 _ rfl
  have x1_1 := X1.out _ HR 1 _ rfl
  have x1_2 := X1.out _ HR 2 _ rfl
  have x1_3 := X1.out _ HR 3 _ rfl
  have x1_4 := X1.out _ HR 4 _ rfl
  try simp only [Act.put]
  refine wp_R [4, 5, 6, 7, 8, 9, 10, 11] [Rk.is (fun v V => SxV S0 w0.heap.size (atom star) v V) (fun _ _ _ h hb => h.old hb), Rk.is (fun v V => SxV S0 w0.heap.size (atom rangW) v V) (fun _ _ _ h hb => h.old hb), Rk.val (.pointer (some ⟨w.heap.size, 0, none⟩)), Rk.val (.int .u8 o), Rk.val (.pointer (some ⟨0, o, none⟩)), Rk.val (.string (bT nw)), Rk.is (fun v V => SxV S0 w0.heap.size (atom nw) v V) (fun _ _ _ h hb => h.old hb), Rk.is (fun v V => SlO S0 w0.heap.size [atom star, atom rangW, atom nw] v V) (fun _ _ _ h hb => h.old hb)] rfl (by kernel_rfl) (by kernel_rfl) (by kernel_rfl) (by kernel_rfl) ?hga _ (by rfl) ?hfa
  case hga =>
    refine gr_is rfl (by kernel_rfl) (fun a V H K Q hK => op_callR #[.const (.string ⟨#[42]⟩)] #[.string (bT star)] (by kernel_rfl) (by kernel_rfl) (by kernel_rfl) (map1 (x := .const (.string ⟨#[42]⟩)) rfl) (pAtom_sx star V HW1.out H.frame.size) (by kernel_rfl) hK) ?_
    refine gr_is rfl (by kernel_rfl) (fun a V H K Q hK => op_callR #[.const (.string ⟨#[114, 97, 110, 103, 101]⟩)] #[.string (bT rangW)] (by kernel_rfl) (by kernel_rfl) (by kernel_rfl) (map1 (x := .const (.string ⟨#[114, 97, 110, 103, 101]⟩)) rfl) (pAtom_sx rangW V HW2.out H.frame.size) (by kernel_rfl) hK) ?_
    refine gr_val rfl (by kernel_rfl) (fun a V H K Q hK => op_quiet (quiet_fld _ (.tmp 1) 0 _ _ (H.old 1 (by kernel_rfl) (by kernel_rfl)) (fR0 _ 0) (by kernel_rfl)) hK) ?_
    refine gr_val rfl (by kernel_rfl) (fun a V H K Q hK => op_quiet (quiet_cell _ (.tmp 6) _ (H.rel 2 6 (by kernel_rfl) (by kernel_rfl) rfl) Tryz.underlying5 rfl (X0.out _ H.frame 0 _ rfl) (by kernel_rfl)) hK) ?_
    refine gr_val rfl (by kernel_rfl) (fun a V H K Q hK => op_quiet (quiet_ixa _ (.global 0) (.tmp 7) _ _ _ rfl (H.rel 3 7 (by kernel_rfl) (by kernel_rfl) rfl) (fun W => HIX.out W) (by kernel_rfl)) hK) ?_
    refine gr_val rfl (by kernel_rfl) (fun a V H K Q hK => op_quiet (quiet_cell _ (.tmp 8) _ (H.rel 4 8 (by kernel_rfl) (by kernel_rfl) rfl) Tryz.underlying9 rfl (HC.out _ H.frame) (by kernel_rfl)) hK) ?_
    refine gr_is rfl (by kernel_rfl) (fun a V H K Q hK => op_callR #[.tmp 9] #[.string (bT nw)] (by kernel_rfl) (by kernel_rfl) (by kernel_rfl) (map1 (H.rel 5 9 (by kernel_rfl) (by kernel_rfl) rfl)) (pAtom_sx nw V HWN.out H.frame.size) (by kernel_rfl) hK) ?_
    refine gr_is rfl (by kernel_rfl) (fun a V H K Q hK => by
        obtain ⟨v0, v1, v2, v3, v4, e4, h4⟩ := (show SxV S0 w0.heap.size (atom star) (a.eval (.tmp 4)) V from (H.rel 0 4 (by kernel_rfl) (by kernel_rfl) rfl))
        obtain ⟨u0, u1, u2, u3, u4, e5, h5⟩ := (show SxV S0 w0.heap.size (atom rangW) (a.eval (.tmp 5)) V from (H.rel 1 5 (by kernel_rfl) (by kernel_rfl) rfl))
        obtain ⟨t0, t1, t2, t3, t4, e10, h10⟩ := (show SxV S0 w0.heap.size (atom nw) (a.eval (.tmp 10)) V from (H.rel 6 10 (by kernel_rfl) (by kernel_rfl) rfl))
        refine op_sx3 (.tmp 4) (.tmp 5) (.tmp 10) e4 e5 e10 (by kernel_rfl) (hK _ _ (below_new _ _) ?_)
        exact slo_lit (ks := [atom star, atom rangW, atom nw]) H.frame.size rfl (by simp) (kids_app (kids_one h4) rfl (kids_app (kids_one h5) rfl (kids_one h10)))) ?_
    exact gr_nil
  case hfa =>
    intro x V hF
    have rv0 := hF.rel 0 _ rfl
    generalize hy0 : x 0 = y0 at rv0 ⊢
    have rv1 := hF.rel 1 _ rfl
    generalize hy1 : x 1 = y1 at rv1 ⊢
    have ev2 : x 2 = .pointer (some ⟨w.heap.size, 0, none⟩) := hF.rel 2 _ rfl
    have ev3 : x 3 = .int .u8 o := hF.rel 3 _ rfl
    have ev4 : x 4 = .pointer (some ⟨0, o, none⟩) := hF.rel 4 _ rfl
    have ev5 : x 5 = .string (bT nw) := hF.rel 5 _ rfl
    have rv6 := hF.rel 6 _ rfl
    generalize hy6 : x 6 = y6 at rv6 ⊢
    have rv7 := hF.rel 7 _ rfl
    generalize hy7 : x 7 = y7 at rv7 ⊢
    have hbf := hF.frame
    clear hF
    simp only [Sch.finL, zA, zB, zC, hy0, hy1, ev2, ev3, ev4, ev5, hy6, hy7]
    clear hy0 hy1 ev2 ev3 ev4 ev5 hy6 hy7
    have HLO := hid rv7
    have HBV := hid hbf
    obtain ⟨Av, nv, cv, hv⟩ := rv7.form
    subst hv
    clear rv0 rv1 rv6 rv7 hbf x0_0 x0_1 x0_2 x0_3 x0_4 x0_5 x0_6 x1_0 x1_1 x1_2 x1_3 x1_4
    go_upto_region 2 with fail
    have hBs1 : w0.heap.size ≤ V.heap.size := HBV.out.size
    have K1 := hid (pAppendEnd i1 p1 l1 103 A3 n3 c3 S0 S0 w0.heap.size [atom star, atom rangW, atom nw] _ V hBs1 HSB.out HLO.out (by have := HBL1.out; have := HBL2.out; simp [List.length_append]; try omega) ((R3.out.keep fun q hq => HBV.out.cell ((HSB.out _ hq).2))) b3.1 b3.2)
    have x0_0 := X0.out _ HBV.out 0 _ rfl
    have x0_1 := X0.out _ HBV.out 1 _ rfl
    have x0_2 := X0.out _ HBV.out 2 _ rfl
    have x0_3 := X0.out _ HBV.out 3 _ rfl
    have x0_4 := X0.out _ HBV.out 4 _ rfl
    have x0_5 := X0.out _ HBV.out 5 _ rfl
    have x0_6 := X0.out _ HBV.out 6 _ rfl
    go_upto_region 3 with (go_at_call 93; refine (K1.out).mono ?_; rintro e Va ⟨vv, rfl, hl, hb⟩; have HL1 := hid hl; have HBn1 := hid (HBV.out.trans hb); obtain ⟨A1v, n1v, c1v, hv⟩ := hl.form; subst hv; clear hl hb)
    clear K1 x0_0 x0_1 x0_2 x0_3 x0_4 x0_5 x0_6
    go_upto_region 3 with fail
    have hBs2 : w0.heap.size ≤ Va.heap.size := HBn1.out.size
    have K2 := hid (pAppendEnd i2 p2 l2 108 A4 n4 c4 S0 S0 w0.heap.size ([atom star, atom rangW, atom nw] ++ boundV ⟨i1, p1, l1⟩ 103) _ Va hBs2 HSB.out HL1.out (by have := HBL1.out; have := HBL2.out; simp [List.length_append]; try omega) ((R4.out.keep fun q hq => HBn1.out.cell ((HSB.out _ hq).2))) b4.1 b4.2)
    have x0_0 := X0.out _ HBn1.out 0 _ rfl
    have x0_1 := X0.out _ HBn1.out 1 _ rfl
    have x0_2 := X0.out _ HBn1.out 2 _ rfl
    have x0_3 := X0.out _ HBn1.out 3 _ rfl
    have x0_4 := X0.out _ HBn1.out 4 _ rfl
    have x0_5 := X0.out _ HBn1.out 5 _ rfl
    have x0_6 := X0.out _ HBn1.out 6 _ rfl
    go_upto_region 4 with (go_at_call 93; refine (K2.out).mono ?_; rintro e Vb ⟨vv, rfl, hl, hb⟩; have HL2 := hid hl; have HBn2 := hid (HBn1.out.trans hb); obtain ⟨A2v, n2v, c2v, hv⟩ := hl.form; subst hv; clear hl hb)
    clear K2 x0_0 x0_1 x0_2 x0_3 x0_4 x0_5 x0_6
    have hSl := HL2.out.toS (B' := w0.heap.size) (Nat.le_refl _) (by have := HBL1.out; have := HBL2.out; simp [List.length_append]; omega)
    have KL := hid (pList_any hSl)
    clear hSl
    go_upto_region 4 with fail
    go_wp2_with first | (go_at_call 76; refine (KL.out).mono ?_; rintro e Vc ⟨vv, rfl, hx, hb⟩; obtain ⟨s0, s1, D1, m1, j1, D2, m2, j2, D3, m3, j3, rfl, hin⟩ := hx.five; have HX := hid hin; have HBc := hid (HBn2.out.trans (hb.mono HBn2.out.size)); clear hx hin hb) | (refine wpList_store_row rfl 34 (.tmp 2) (.tmp 21) rfl (w.heap.size + 1) #[.bool s0, .bool s1, .slice D1 m1 j1, .slice D2 m2 j2, .slice D3 m3 j3] rfl rfl 34 #[.bool false, .bool false, .slice none 0 0, .slice none 0 0, .slice none 0 0] (B1.out.below HBc.out (by omega)) infoSx5 rfl (one5 _ _ _ _ _ _ _ _ _ _ _) ?_)
    exact bodyPost_ret (v := .agg #[.bool s0, .bool s1, .slice D1 m1 j1, .slice D2 m2 j2, .slice D3 m3 j3]) (results_cell_row Tryz.results78 _ _ (w.heap.size + 1) 34 #[.bool s0, .bool s1, .slice D1 m1 j1, .slice D2 m2 j2, .slice D3 m3 j3] (0, 0) _ rfl ((B1.out.below HBc.out (by omega)).row _) Tryz.underlying34 rfl infoSx5) rfl ⟨_, rfl, ⟨_, _, _, _, _, rfl, ((HX.out.keep fun q hq => row_cell (by rcases hq with h | h <;> first | (have := (HS0.out _ h).2; omega) | omega)).more fun b hb => hb.elim (fun h => .inl (HS0.out _ h).1) fun h => .inr (by omega))⟩, below_row (HB0.out.trans (HBc.out.mono (by omega))) (by omega) _⟩
end Go.Proofs.YtinlonpcakkfhaaGreatDoor
end
section
set_option maxRecDepth 100000
namespace Go.Proofs.YtinlonpcakkfhaaGreatDoor
open Go Go.Proofs Go.RowKit Sx _root_.Ord11 Go.Proofs.YtinlonpcakkfhaaGreatDoor.Ord11 _root_.Tag12 Sch
def WriteSpec (t : TG) : Prop := ∀ (w : World) (S : Nat → Prop) (cs : List Value), TIn w S t cs → OrdT w → rightT ordC t = true → countT t ≤ 512 →
  Calls Tryz.prog 55 #[.agg cs.toArray] w fun e w' => ∃ v, e = .returned v ∧ SxV S w.heap.size (valueT t) v w' ∧ Below w.heap.size w w'
theorem count_mem {ks : List TG} {N : Nat} (h : countL ks ≤ N) : ks.length ≤ N ∧ ∀ x ∈ ks, countT x ≤ N := by
  induction ks generalizing N with
  | nil => exact ⟨by simp, fun x hx => by cases hx⟩
  | cons a r ih =>
    rw [countL] at h
    have h1 : 1 ≤ countT a := by cases a; rw [countT]; omega
    obtain ⟨i1, i2⟩ := ih (N := N - countT a) (by omega)
    refine ⟨by simp; omega, fun x hx => ?_⟩
    rcases List.mem_cons.1 hx with rfl | hx
    · omega
    · have := i2 x hx; omega
set_option maxHeartbeats 8000000 in
theorem pWriteAll (ks : List TG) (IH : ∀ k ∈ ks, WriteSpec k) (A : Option Addr) (n c : Nat) (w : World) (S : Nat → Prop) (hr : RowT w S ks A n c) (ht : OrdT w) (hri : rightsT ordC ks = true) (hcn : countL ks ≤ 512) (hS : ∀ b, S b → b < w.heap.size) :
    Calls Tryz.prog 77 #[.slice A n c] w fun e w' => ∃ v, e = .returned v ∧ SlO S w.heap.size (valuesT ks) v w' ∧ Below w.heap.size w w' := by
  obtain ⟨hk, hc, hm⟩ := hr.len
  obtain ⟨hl5, hall⟩ := count_mem hcn
  have HR := hid hr
  have HK := hid hk
  have HI := hid IH
  have HT := hid ht
  have HRI := hid (rights_all hri)
  have HAL := hid hall
  have HSS := hid hS
  have hn5 : n ≤ 512 := by omega
  obtain ⟨ib, hib, hzb0, hzb1, hzb2⟩ := info_parts infoSexp
  have HIB := hid hib
  have HO0 : Hid (SlO S w.heap.size [] (.slice none 0 0) w) := slo_none
  clear hr hk IH ht hri hcn hall hS hib
  go_enter Tryz.func77, Tryz.ntmps77
  go_wp2_with fail
  go_loopw [3, 8] (fun p i wr => ∃ (q : Nat) (v : Value), v = p ∧ q ≤ n ∧ i = .int .i64 q ∧ Hid (SlO S w.heap.size (valuesT (ks.take q)) v wr) ∧ Below w.heap.size w wr) (fun _ i _ => n - (intOf i).toNat)
  case atStart => exact ⟨0, _, rfl, Nat.zero_le _, rfl, by show SlO _ _ _ _ _; rw [List.take_zero, valuesT]; exact HO0.out, Below.refl _ _⟩
  case round =>
    obtain ⟨q, v, rfl, hqn, rfl, hlo, hbel⟩ := hrel
    by_cases hlt : q < n
    · obtain ⟨ad, v0, v1, v2, v3, v4, v5, v6, v7, v8, v9, t, rfl, hS0, hks, hmem, hin, d0, d1, d2, d3, d4, d5, d6, d7, d8, d9⟩ := (HR.out.old hbel).at_ hlt
      obtain ⟨ka, oa, i1a, p1a, i2a, p2a, A1a, n1a, c1a, A2a, n2a, c2a, A3a, n3a, c3a, A4a, n4a, c4a, eE⟩ := hin.lets
      injection eE with eE0 eE; injection eE with eE1 eE; injection eE with eE2 eE; injection eE with eE3 eE; injection eE with eE4 eE; injection eE with eE5 eE; injection eE with eE6 eE; injection eE with eE7 eE; injection eE with eE8 eE; injection eE with eE9 eE
      subst eE0 eE1 eE2 eE3 eE4 eE5 eE6 eE7 eE8 eE9
      clear eE
      obtain ⟨w1, hw1⟩ : ∃ w1, w1 = wr.alloc (.cells #[.int .u8 ka, .slice A1a n1a c1a, .slice A2a n2a c2a, .int .u8 oa, .bool i1a, .bool p1a, .slice A3a n3a c3a, .bool i2a, .bool p2a, .slice A4a n4a c4a] 29) := ⟨_, rfl⟩
      have hb1 : Below wr.heap.size wr w1 := by rw [hw1]; exact below_new _ _
      have B1 : Blk w1 wr.heap.size 29 #[.int .u8 ka, .slice A1a n1a c1a, .slice A2a n2a c2a, .int .u8 oa, .bool i1a, .bool p1a, .slice A3a n3a c3a, .bool i2a, .bool p2a, .slice A4a n4a c4a] := by rw [hw1]; exact Blk.new _ _ _
      have HT2 := hid (valuesT_take ks q t hks)
      have HBEL := hid (hbel.trans (hb1.mono hbel.size))
      have KW := hid (HI.out t hmem w1 S _ (hin.old hb1) (HT.out.old HBEL.out) (HRI.out t hmem) (HAL.out t hmem))
      obtain ⟨nA, xsA, hlA, hownW, hkW⟩ := hlo.out.old hb1
      have HLA := hid hlA
      have HOW := hid hownW
      have HKW := hid hkW
      have hnA : nA ≤ 512 := by rw [← HLA.out, valuesT_len, List.length_take]; omega
      have hws : w.heap.size ≤ w1.heap.size := HBEL.out.size
      clear hS0 hks hmem hin hlA hownW hkW hb1 hbel
      go_upto_region 5 with fail
      rw [← hw1]
      clear hw1 d0 d1 d2 d3 d4 d5 d6 d7 d8 d9
      have y0 := B1.cell 0
      have y1 := B1.cell 1
      have y2 := B1.cell 2
      have y3 := B1.cell 3
      have y4 := B1.cell 4
      have y5 := B1.cell 5
      have y6 := B1.cell 6
      have y7 := B1.cell 7
      have y8 := B1.cell 8
      have y9 := B1.cell 9
      go_wp2_with first | (go_at_call 55; refine (KW.out).mono ?_; rintro e V1 ⟨vx, rfl, hsx, hb1⟩; obtain ⟨z0, z1, Z1, zn1, zc1, Z2, zn2, zc2, Z3, zn3, zc3, rfl, hzin⟩ := hsx.five; have HO1 := hid (own_old HOW.out hb1); have HZ := hid hzin; have HB1 := hid hb1; have hg1 : w.heap.size ≤ V1.heap.size := (by have := hb1.size; omega); clear hsx hzin hb1) | (at_builtin; refine wpList_append_any _ rfl (.tmp 12) (.tmp 15) 32 rfl w.heap.size 34 ib _ 5 80 Tryz.underlying32 HIB.out hzb0 hzb1 hzb2 rfl (by omega) _ nA xsA rfl (HO1.out.alloc _) _ _ 1 _ [.bool z0, .bool z1, .slice Z1 zn1 zc1, .slice Z2 zn2 zc2, .slice Z3 zn3 zc3] rfl (reads_lit5 V1 _ _ _ _ _) (ones5 _ _ _ _ _ _ _ _ _ _ _) (by unfold maxLen; omega) (by omega) (by simp; omega) ?_; intro v' V3 hown' hgr hbl)
      have hba : Below V1.heap.size V1 (V1.alloc (.cells #[.bool z0, .bool z1, .slice Z1 zn1 zc1, .slice Z2 zn2 zc2, .slice Z3 zn3 zc3] 34)) := below_new _ _
      have HNEW : Hid (SlO S w.heap.size (valuesT (ks.take q) ++ [valueT t]) v' V3) := slo_app (S0 := S) (B2 := w1.heap.size) HLA.out (HO1.out.alloc _) (fun i t hi => ((HKW.out i t hi).old HB1.out).old hba) rfl (kids_one (HZ.out.old hba)) (fun b hb => ⟨hb, HSS.out b hb⟩) hws (fun b hb => (HOW.out.lt b hb).2) hown' hgr hbl
      have HB3 : Below w.heap.size w V3 := (((HBEL.out.trans (HB1.out.mono hws)).alloc (by omega) _).grown hgr (by simp; omega) (fun b hb => (HO1.out.lt b hb).1))
      clear hown' hgr hbl
      go_wp2_with fail
      go_roundw
      case rel => exact ⟨q + 1, _, rfl, by omega, by go_num, by show SlO _ _ _ _ _; rw [HT2.out]; exact HNEW.out, HB3⟩
      case measure => simp [intOf]; omega
    · obtain rfl : q = n := by omega
      have hSl : Hid (SlO S w.heap.size (valuesT ks) v wr) := by
        have h := hlo.out
        rwa [List.take_of_length_le (by rw [HK.out]; exact Nat.le_refl _)] at h
      go_wp2_with fail
      go_ret
      exact ⟨_, rfl, hSl.out, hbel⟩
theorem run_appF {Sd : Nat → Prop} {B g n m c : Nat} {A : Option Addr} {ks ls : List SX} {V : World} (ty : TypeId) (hB : B ≤ V.heap.size) (h1 : SlS Sd B ks (.slice (some ⟨g, 0, none⟩) n n) V) (h2 : SlS Sd B ls (.slice A m c) V) (hn : ks.length ≤ 1000) (hm : ls.length ≤ 1000) :
    ∃ v' V', (Builtin.append_ #[32, 32] ty #[.slice (some ⟨g, 0, none⟩) n n, .slice A m c]).run Tryz.prog V = .ok v' V' ∧ SlS Sd B (ks ++ ls) v' V' ∧ Below V.heap.size V V' := by
  obtain ⟨ib, hib, e0, e1, e2⟩ := info_parts infoSexp
  have h1' := h1
  obtain ⟨_, _, _, xs, eE, a1, a2, a3, a4, a5⟩ := h1
  injection eE with eA eB eC
  subst eA eB eC
  obtain ⟨_, _, _, ys, eE, b1, b2, b3, b4, b5⟩ := h2
  injection eE with eA eB eC
  subst eA eB eC
  rcases Nat.eq_zero_or_pos m with h0 | h0
  · subst h0
    have hl : ls = [] := List.eq_nil_of_length_eq_zero b3
    subst hl
    refine ⟨.slice (some ⟨g, 0, none⟩) n n, V, ?_, by rw [List.append_nil]; exact h1', Below.refl _ _⟩
    rcases A with _ | ad
    · simp [Builtin.append_, run_underlying (Tryz.underlying32), sizeOf, typeInfo, hib, Builtin.lenOf, Builtin.firstCells, storeCells, loadCells, Result.andThen]
    · simp [Builtin.append_, run_underlying (Tryz.underlying32), sizeOf, typeInfo, hib, Builtin.lenOf, Builtin.firstCells, storeCells, loadCells, Result.andThen]
      rfl
  · obtain ⟨ad, rfl, _, hcy⟩ := b4.2 h0
    have hcx : ∀ j u, xs[j]? = some u → V.cell? ((⟨g, 0, none⟩ : Addr).add j) = some u := by
      rcases Nat.eq_zero_or_pos n with h | h
      · subst h
        have : xs = [] := List.eq_nil_of_length_eq_zero (by simpa using a4.1)
        subst this
        intro j u hu; simp at hu
      · obtain ⟨ad', e, _, hc⟩ := a4.2 h
        injection e with e
        subst e
        exact hc
    have hrun := run_append_grow V 32 ty 34 ib _ Tryz.underlying32 hib e0 ⟨g, 0, none⟩ n n xs (by rw [e1]; exact a4.1) hcx ad m c ys (by rw [e1]; exact b4.1) hcy (by omega) (by omega) (by rw [e2]; exact growslice_fits (by omega) (by omega))
    have hge := grownCap_ge V (n + m) n 34
    refine ⟨_, _, hrun, ?_, (Below.refl V.heap.size V).drew.alloc (Nat.le_refl _) _⟩
    have hb : Below V.heap.size V (V.drew.alloc (.cells (xs.toArray ++ ys.toArray ++ Builtin.zeroCells (Value.agg #[Value.bool false, Value.bool false, Value.slice none 0 0, Value.slice none 0 0, Value.slice none 0 0]).cells (grownCap V (n + m) n 34 - (n + m))) 34)) := (Below.refl V.heap.size V).drew.alloc (Nat.le_refl _) _
    refine ⟨_, _, _, xs ++ ys, rfl, hge, by omega, by rw [List.length_append]; omega, ⟨by rw [List.length_append, a4.1, b4.1, Nat.add_mul], fun _ => ⟨_, rfl, hB, fun j u hj => ?_⟩⟩, fun i t hi => (kids_app a5 (by rw [a4.1, a3]) b5 i t hi).old hb⟩
    rw [show (⟨V.heap.size, 0, none⟩ : Addr).add j = ⟨V.heap.size, j, none⟩ from by unfold Addr.add; split <;> simp_all]
    refine (Lib.cell_of_heap (heap_alloc_new V.drew _) _).trans ?_
    have hjl : j < (xs ++ ys).length := (List.getElem?_eq_some_iff.1 hj).1
    have hj2 : (xs.toArray ++ ys.toArray)[j]? = some u := by simpa using hj
    rw [Array.getElem?_append_left (by simpa using hjl)]
    exact hj2
theorem wpList_appF {ops : Array Oper} {rest : List Oper} {o : Oper} {a : Act} {V : World} {Q : Exit → Act → World → Prop} (hgd : o.guard = none) (x y : Operand)
    (ho : o.op = .call { callee := .builtin .append, args := #[x, y], argTypes := #[32, 32] })
    {Sd : Nat → Prop} {B g n : Nat} {v : Value} {ks ls : List SX} (hB : B ≤ V.heap.size) (hx : a.eval x = .slice (some ⟨g, 0, none⟩) n n) (h1 : SlS Sd B ks (.slice (some ⟨g, 0, none⟩) n n) V) (hy : a.eval y = v) (h2 : SlS Sd B ls v V) (hn : ks.length ≤ 1000) (hm : ls.length ≤ 1000)
    (h : ∀ v' V', SlS Sd B (ks ++ ls) v' V' → Below V.heap.size V V' → wpList Tryz.prog ops Q rest (a.put o.dst v') V') : wpList Tryz.prog ops Q (o :: rest) a V :=
  wpList_plain hgd fun _ hK => by
    obtain ⟨A, m, c, hv⟩ : ∃ A m c, v = .slice A m c := by
      obtain ⟨A, m, c, xs, e, _⟩ := h2
      exact ⟨A, m, c, e⟩
    subst hv
    obtain ⟨v', V', hrun, hs, hb⟩ := run_appF o.type hB h1 h2 hn hm
    unfold Oper.wp execOp
    simp only [ho, resolve, invoke, builtin, Sem.run_bind, Sem.run_pure, Result.andThen_ok, List.map_toArray, List.map_cons, List.map_nil, hx, hy, hrun]
    exact hK _ _ (h v' V' hs hb)
set_option maxHeartbeats 16000000 in
theorem pWrite_any (t : TG) : WriteSpec t := by
  induction t using TG.ind with
  | H k d r ks ih =>
    intro w S cs hs ht hri hcn
    obtain ⟨o, ⟨i1, p1, l1⟩, ⟨i2, p2, l2⟩⟩ := r
    obtain ⟨_, _, _, _, A1, n1, c1, A2, n2, c2, A3, n3, c3, A4, n4, c4, e, rfl⟩ := hs.form_
    cases e
    dsimp only at hs ⊢
    obtain ⟨_, ⟨hk8, ho8⟩, ⟨r1, r3, r4⟩, ⟨g1, hk, g3, g4⟩, ⟨b11, b12, b21, b22, b31, b32, b41, b42⟩⟩ := hs.size_.inv
    dsimp only at r3 r4 g3 g4 ho8
    rw [right_own, Bool.and_eq_true] at hri
    obtain ⟨how, hrk⟩ := hri
    have hcl : countL ks ≤ 512 := by rw [countT] at hcn; omega
    have ho5 : k = 6 → o ≤ 5 := fun h6 => by
      subst h6
      unfold ownR at how
      rw [if_neg (by omega), if_neg (by omega), if_neg (by omega), if_neg (by omega), if_pos rfl] at how
      simp only [Bool.and_eq_true] at how
      exact (mayR_parts how.1.1).1.2
    have hk6 : 1 ≤ k ∧ k ≤ 6 := by
      refine Classical.byContradiction fun h => ?_
      unfold ownR at how
      rw [if_neg (by omega), if_neg (by omega), if_neg (by omega), if_neg (by omega), if_neg (by omega)] at how
      cases how
    obtain ⟨vt, hvt⟩ : ∃ x, x = valueT (.mk k d ⟨o, ⟨i1, p1, l1⟩, ⟨i2, p2, l2⟩⟩ ks) := ⟨_, rfl⟩
    rw [← hvt]
    have HVT : Hid (vt = if k = 1 then list [atom star] else if k = 2 then atom d else if k = 4 then list (atom star :: atom setW :: valuesT ks) else if k = 5 then list [atom star, atom prefW, atom d] else if k = 6 then list (atom star :: atom rangW :: atom (nameW o) :: (boundV ⟨i1, p1, l1⟩ 103 ++ boundV ⟨i2, p2, l2⟩ 108)) else list (valuesT ks)) := by show _ = _; rw [hvt, valueT]
    clear hvt how hcn
    obtain ⟨w0, hw0⟩ : ∃ w0, w0 = ((w.alloc (.cells #[.int .u8 k, .slice A1 n1 c1, .slice A2 n2 c2, .int .u8 o, .bool i1, .bool p1, .slice A3 n3 c3, .bool i2, .bool p2, .slice A4 n4 c4] 29)).alloc (.cells #[.bool false, .bool false, .slice none 0 0, .slice none 0 0, .slice none 0 0] 34)) := ⟨_, rfl⟩
    have HB0 : Hid (Below w.heap.size w w0) := by
      show Below _ _ _
      rw [hw0]
      exact ((Below.refl w.heap.size w).alloc (Nat.le_refl _) _).alloc (by simp; try omega) _
    have B0 : Blk w0 w.heap.size 29 #[.int .u8 k, .slice A1 n1 c1, .slice A2 n2 c2, .int .u8 o, .bool i1, .bool p1, .slice A3 n3 c3, .bool i2, .bool p2, .slice A4 n4 c4] := by
      rw [hw0]
      exact (Blk.new w 29 #[.int .u8 k, .slice A1 n1 c1, .slice A2 n2 c2, .int .u8 o, .bool i1, .bool p1, .slice A3 n3 c3, .bool i2, .bool p2, .slice A4 n4 c4]).alloc (.cells #[.bool false, .bool false, .slice none 0 0, .slice none 0 0, .slice none 0 0] 34)
    have X0 : Hid (∀ W, Below w0.heap.size w0 W → ∀ kx u, (#[.int .u8 k, .slice A1 n1 c1, .slice A2 n2 c2, .int .u8 o, .bool i1, .bool p1, .slice A3 n3 c3, .bool i2, .bool p2, .slice A4 n4 c4] : Array Value)[kx]? = some u → W.cell? ⟨w.heap.size, kx, none⟩ = some u) := fun W hW kx u hk => cell_below hW ((B0.cell kx).trans hk) B0.lt
    have B1 : Blk w0 (w.heap.size + 1) 34 #[.bool false, .bool false, .slice none 0 0, .slice none 0 0, .slice none 0 0] := by
      rw [hw0]
      have h := Blk.new (w.alloc (.cells #[.int .u8 k, .slice A1 n1 c1, .slice A2 n2 c2, .int .u8 o, .bool i1, .bool p1, .slice A3 n3 c3, .bool i2, .bool p2, .slice A4 n4 c4] 29)) 34 #[.bool false, .bool false, .slice none 0 0, .slice none 0 0, .slice none 0 0]
      simpa using h
    have X1 : Hid (∀ W, Below w0.heap.size w0 W → ∀ kx u, (#[.bool false, .bool false, .slice none 0 0, .slice none 0 0, .slice none 0 0] : Array Value)[kx]? = some u → W.cell? ⟨(w.heap.size + 1), kx, none⟩ = some u) := fun W hW kx u hk => cell_below hW ((B1.cell kx).trans hk) B1.lt
    have HR : Below w0.heap.size w0 w0 := Below.refl _ _
    have hz0 : w0.heap.size = w.heap.size + 2 := by rw [hw0]; simp
    have HBW0 := HB0.out
    obtain ⟨S0, hS0⟩ : ∃ S0 : Nat → Prop, S0 = fun b => S b ∧ b < w.heap.size := ⟨_, rfl⟩
    have HS0 : Hid (∀ b, S0 b → S b ∧ b < w.heap.size) := fun b hb => by rw [hS0] at hb; exact hb
    have HSB : Hid (∀ b, S0 b → b < w0.heap.size) := fun b hb => by have := (HS0.out b hb).2; omega
    have R1 : Hid (RIn w0 S0 1 A1 n1 (Lib.byteCells d)) := by show RIn _ _ _ _ _ _; rw [hS0]; exact r1.old (by omega) HBW0
    have R3 : Hid (RIn w0 S0 1 A3 n3 (Lib.byteCells l1)) := by show RIn _ _ _ _ _ _; rw [hS0]; exact r3.old (by omega) HBW0
    have R4 : Hid (RIn w0 S0 1 A4 n4 (Lib.byteCells l2)) := by show RIn _ _ _ _ _ _; rw [hS0]; exact r4.old (by omega) HBW0
    have HT : Hid (OrdT w0) := ht.old HBW0
    have HWA : Hid (∀ V, Below w0.heap.size w0 V → Calls Tryz.prog 77 #[.slice A2 n2 c2] V fun e w' => ∃ v, e = .returned v ∧ SlO S0 V.heap.size (valuesT ks) v w' ∧ Below V.heap.size V w') := fun V hV => by
      refine pWriteAll ks ih A2 n2 c2 V S0 ?_ (HT.out.old hV) hrk hcl (fun b hb => Nat.lt_of_lt_of_le (HSB.out b hb) hV.size)
      rw [hS0]
      exact (hs.size_.old (next_below HBW0 hV)).rowT
    have HK := hid hk
    have HCL := hid hcl
    have HO5 := hid ho5
    have B1 := hid B1
    have HLN : Hid ((valuesT ks).length ≤ 512) := by show _ ≤ _; rw [valuesT_len]; exact (count_mem hcl).1
    have HST : Hid (star.length ≤ 140737488355328) := by show _ ≤ _; decide
    have HSW : Hid (setW.length ≤ 140737488355328) := by show _ ≤ _; decide
    have HPW : Hid (prefW.length ≤ 140737488355328) := by show _ ≤ _; decide
    have FIN : Hid (∀ V v, Below w0.heap.size w0 V → SxV S0 w0.heap.size vt v V → ∃ s0 s1 D1 m1 j1 D2 m2 j2 D3 m3 j3, v = .agg #[.bool s0, .bool s1, .slice D1 m1 j1, .slice D2 m2 j2, .slice D3 m3 j3] ∧ Blk V (w.heap.size + 1) 34 #[.bool false, .bool false, .slice none 0 0, .slice none 0 0, .slice none 0 0] ∧
        SxV S w.heap.size vt (.agg #[.bool s0, .bool s1, .slice D1 m1 j1, .slice D2 m2 j2, .slice D3 m3 j3]) (V.setRow (w.heap.size + 1) #[.bool s0, .bool s1, .slice D1 m1 j1, .slice D2 m2 j2, .slice D3 m3 j3]) ∧ Below w.heap.size w (V.setRow (w.heap.size + 1) #[.bool s0, .bool s1, .slice D1 m1 j1, .slice D2 m2 j2, .slice D3 m3 j3])) := fun V v hV hx => by
      obtain ⟨s0, s1, D1, m1, j1, D2, m2, j2, D3, m3, j3, rfl, hin⟩ := hx.five
      refine ⟨s0, s1, D1, m1, j1, D2, m2, j2, D3, m3, j3, rfl, B1.out.below hV (by omega), ⟨_, _, _, _, _, rfl, ((hin.keep fun q hq => row_cell (by rcases hq with h | h <;> first | (have := (HS0.out _ h).2; omega) | omega)).more fun b hb => hb.elim (fun h => .inl (HS0.out _ h).1) fun h => .inr (by omega))⟩, below_row (next_below HB0.out hV) (by omega) _⟩
    clear hs ih r1 r3 r4 g1 g3 g4 hk hS0 ht hrk hcl ho5 B0
    go_enter Tryz.func55, Tryz.ntmps55
    go_upto_region 1 with fail
    rw [← hw0]
    clear hw0
    have x0_0 := X0.out _ HR 0 _ rfl
    have x0_1 := X0.out _ HR 1 _ rfl
    have x0_2 := X0.out _ HR 2 _ rfl
    have x0_3 := X0.out _ HR 3 _ rfl
    have x0_4 := X0.out _ HR 4 _ rfl
    have x0_5 := X0.out _ HR 5 _ rfl
    have x0_6 := X0.out _ HR 6 _ rfl
    have x0_7 := X0.out _ HR 7 _ rfl
    have x0_8 := X0.out _ HR 8 _ rfl
    have x0_9 := X0.out _ HR 9 _ rfl
    have x1_0 := X1.out _ HR 0 _ rfl
    have x1_1 := X1.out _ HR 1 _ rfl
    have x1_2 := X1.out _ HR 2 _ rfl
    have x1_3 := X1.out _ HR 3 _ rfl
    have x1_4 := X1.out _ HR 4 _ rfl
    by_cases k1 : k = 1
    · subst k1
      have HV : Hid (vt = list [atom star]) := by show _ = _; rw [HVT.out]; rfl
      have KA := hid (pAtom_sx (Sd := S0) (B := w0.heap.size) star w0 HST.out (Nat.le_refl _))
      rw [HV.out] at FIN
      go_wp2_with first | (go_at_call 26; refine (KA.out).mono ?_; rintro e V1 ⟨va, rfl, ha, hb1⟩; obtain ⟨z0, z1, Z1, zn1, zc1, Z2, zn2, zc2, Z3, zn3, zc3, rfl, hzin⟩ := ha.five; have KL := hid (pList_any (sls_lit1 (Sd := S0) (B := w0.heap.size) hb1.size hzin)); have hb1a := hb1.trans ((below_new V1 (.cells #[.bool z0, .bool z1, .slice Z1 zn1 zc1, .slice Z2 zn2 zc2, .slice Z3 zn3 zc3] 34)).mono hb1.size); clear ha hzin) | (go_at_call 76; refine (KL.out).mono ?_; rintro e Vc ⟨vv, rfl, hx, hb⟩; have hVc := next_below hb1a hb; obtain ⟨s0, s1, D1, m1, j1, D2, m2, j2, D3, m3, j3, rfl, hbk, hfx, hfb⟩ := FIN.out _ _ hVc hx; have HFX := hid hfx; have HFB := hid hfb; clear hx hfx hfb hb) | (refine wpList_store_row rfl 34 (.tmp 2) (.tmp 9) rfl (w.heap.size + 1) #[.bool s0, .bool s1, .slice D1 m1 j1, .slice D2 m2 j2, .slice D3 m3 j3] rfl rfl 34 #[.bool false, .bool false, .slice none 0 0, .slice none 0 0, .slice none 0 0] hbk infoSx5 rfl (one5 _ _ _ _ _ _ _ _ _ _ _) ?_)
      rw [HV.out]
      exact bodyPost_ret (v := .agg #[.bool s0, .bool s1, .slice D1 m1 j1, .slice D2 m2 j2, .slice D3 m3 j3]) (results_cell_row Tryz.results55 _ _ (w.heap.size + 1) 34 #[.bool s0, .bool s1, .slice D1 m1 j1, .slice D2 m2 j2, .slice D3 m3 j3] (0, 0) _ rfl (hbk.row _) Tryz.underlying34 rfl infoSx5) rfl ⟨_, rfl, HFX.out, HFB.out⟩
    by_cases k2 : k = 2
    · subst k2
      have HV : Hid (vt = atom d) := by show _ = _; rw [HVT.out]; rfl
      rw [HV.out] at FIN
      obtain ⟨s0, s1, D1, m1, j1, D2, m2, j2, D3, m3, j3, eE, hbk, hfx, hfb⟩ := FIN.out _ _ HR ⟨_, _, _, _, _, rfl, sIn_atomD (B := w0.heap.size) R1.out b11 b12⟩
      injection eE with eE
      simp only [Array.mk.injEq, List.cons.injEq, Value.bool.injEq, Value.slice.injEq, and_true] at eE
      obtain ⟨e0, e1, ⟨e2, e3, e4⟩, ⟨e5, e6, e7⟩, ⟨e8, e9, e10⟩⟩ := eE
      subst e0 e1 e2 e3 e4 e5 e6 e7 e8 e9 e10
      have HFX := hid hfx
      have HFB := hid hfb
      clear hfx hfb
      go_wp2_with (refine wpList_store_row rfl 34 (.tmp 2) (.tmp 42) rfl (w.heap.size + 1) #[.bool false, .bool false, .slice none 0 0, .slice A1 n1 c1, .slice none 0 0] rfl rfl 34 #[.bool false, .bool false, .slice none 0 0, .slice none 0 0, .slice none 0 0] hbk infoSx5 rfl (one5 _ _ _ _ _ _ _ _ _ _ _) ?_)
      rw [HV.out]
      exact bodyPost_ret (v := .agg #[.bool false, .bool false, .slice none 0 0, .slice A1 n1 c1, .slice none 0 0]) (results_cell_row Tryz.results55 _ _ (w.heap.size + 1) 34 #[.bool false, .bool false, .slice none 0 0, .slice A1 n1 c1, .slice none 0 0] (0, 0) _ rfl (hbk.row _) Tryz.underlying34 rfl infoSx5) rfl ⟨_, rfl, HFX.out, HFB.out⟩
    by_cases k3 : k = 3
    · subst k3
      have HV : Hid (vt = list (valuesT ks)) := by show _ = _; rw [HVT.out]; rfl
      have KA := hid (HWA.out w0 HR)
      rw [HV.out] at FIN
      go_wp2_with first | (go_at_call 77; refine (KA.out).mono ?_; rintro e V1 ⟨va, rfl, ha, hb1⟩; have KL := hid (pList_any (ha.toS (Nat.le_refl _) (by have := HLN.out; omega))); clear ha) | (go_at_call 76; refine (KL.out).mono ?_; rintro e Vc ⟨vv, rfl, hx, hb⟩; have hVc := next_below hb1 hb; obtain ⟨s0, s1, D1, m1, j1, D2, m2, j2, D3, m3, j3, rfl, hbk, hfx, hfb⟩ := FIN.out _ _ hVc hx; have HFX := hid hfx; have HFB := hid hfb; clear hx hfx hfb hb) | (refine wpList_store_row rfl 34 (.tmp 2) (.tmp 39) rfl (w.heap.size + 1) #[.bool s0, .bool s1, .slice D1 m1 j1, .slice D2 m2 j2, .slice D3 m3 j3] rfl rfl 34 #[.bool false, .bool false, .slice none 0 0, .slice none 0 0, .slice none 0 0] hbk infoSx5 rfl (one5 _ _ _ _ _ _ _ _ _ _ _) ?_)
      rw [HV.out]
      exact bodyPost_ret (v := .agg #[.bool s0, .bool s1, .slice D1 m1 j1, .slice D2 m2 j2, .slice D3 m3 j3]) (results_cell_row Tryz.results55 _ _ (w.heap.size + 1) 34 #[.bool s0, .bool s1, .slice D1 m1 j1, .slice D2 m2 j2, .slice D3 m3 j3] (0, 0) _ rfl (hbk.row _) Tryz.underlying34 rfl infoSx5) rfl ⟨_, rfl, HFX.out, HFB.out⟩
    by_cases k6 : k = 6
    · subst k6
      have HV : Hid (vt = list (atom star :: atom rangW :: atom (nameW o) :: (boundV ⟨i1, p1, l1⟩ 103 ++ boundV ⟨i2, p2, l2⟩ 108))) := by show _ = _; rw [HVT.out]; rfl
      have KA := hid (pWriteRange ⟨o, ⟨i1, p1, l1⟩, ⟨i2, p2, l2⟩⟩ S0 w0 (HO5.out rfl) HT.out R3.out ⟨b31, b32⟩ R4.out ⟨b41, b42⟩)
      rw [HV.out] at FIN
      go_wp2_with first | (go_at_call 78; refine (KA.out).mono ?_; rintro e V1 ⟨va, rfl, hx, hb⟩; obtain ⟨s0, s1, D1, m1, j1, D2, m2, j2, D3, m3, j3, rfl, hbk, hfx, hfb⟩ := FIN.out _ _ hb hx; have HFX := hid hfx; have HFB := hid hfb; clear hx hfx hfb) | (refine wpList_store_row rfl 34 (.tmp 2) (.tmp 33) rfl (w.heap.size + 1) #[.bool s0, .bool s1, .slice D1 m1 j1, .slice D2 m2 j2, .slice D3 m3 j3] rfl rfl 34 #[.bool false, .bool false, .slice none 0 0, .slice none 0 0, .slice none 0 0] hbk infoSx5 rfl (one5 _ _ _ _ _ _ _ _ _ _ _) ?_)
      rw [HV.out]
      exact bodyPost_ret (v := .agg #[.bool s0, .bool s1, .slice D1 m1 j1, .slice D2 m2 j2, .slice D3 m3 j3]) (results_cell_row Tryz.results55 _ _ (w.heap.size + 1) 34 #[.bool s0, .bool s1, .slice D1 m1 j1, .slice D2 m2 j2, .slice D3 m3 j3] (0, 0) _ rfl (hbk.row _) Tryz.underlying34 rfl infoSx5) rfl ⟨_, rfl, HFX.out, HFB.out⟩
    by_cases k5 : k = 5
    · subst k5
      have HV : Hid (vt = list [atom star, atom prefW, atom d]) := by show _ = _; rw [HVT.out]; rfl
      rw [HV.out] at FIN
      go_upto_region 7 with fail
      try simp only [Act.put]
      refine wp_R [22, 23, 24, 25, 26, 27] [Rk.is (fun v V => SxV S0 w0.heap.size (atom star) v V) (fun _ _ _ h hb => h.old hb), Rk.is (fun v V => SxV S0 w0.heap.size (atom prefW) v V) (fun _ _ _ h hb => h.old hb), Rk.val (.pointer (some ⟨w.heap.size, 1, none⟩)), Rk.val (.slice A1 n1 c1), Rk.val (.agg #[.bool false, .bool false, .slice none 0 0, .slice A1 n1 c1, .slice none 0 0]), Rk.is (fun v V => SlS S0 w0.heap.size [atom star, atom prefW, atom d] v V) (fun _ _ _ h hb => h.old hb)] rfl (by kernel_rfl) (by kernel_rfl) (by kernel_rfl) (by kernel_rfl) ?hgp _ (by rfl) ?hfp
      case hgp =>
        refine gr_is rfl (by kernel_rfl) (fun a V H K Q hK => op_callR #[.const (.string ⟨#[42]⟩)] #[.string (bT star)] (by kernel_rfl) (by kernel_rfl) (by kernel_rfl) (map1 (x := .const (.string ⟨#[42]⟩)) rfl) (pAtom_sx star V HST.out H.frame.size) (by kernel_rfl) hK) ?_
        refine gr_is rfl (by kernel_rfl) (fun a V H K Q hK => op_callR #[.const (.string ⟨#[112, 114, 101, 102, 105, 120]⟩)] #[.string (bT prefW)] (by kernel_rfl) (by kernel_rfl) (by kernel_rfl) (map1 (x := .const (.string ⟨#[112, 114, 101, 102, 105, 120]⟩)) rfl) (pAtom_sx prefW V HPW.out H.frame.size) (by kernel_rfl) hK) ?_
        refine gr_val rfl (by kernel_rfl) (fun a V H K Q hK => op_quiet (quiet_fld _ (.tmp 1) 1 _ _ (H.old 1 (by kernel_rfl) (by kernel_rfl)) (fT1 _ 0) (by kernel_rfl)) hK) ?_
        refine gr_val rfl (by kernel_rfl) (fun a V H K Q hK => op_quiet (quiet_cell _ (.tmp 24) _ (H.rel 2 24 (by kernel_rfl) (by kernel_rfl) rfl) Tryz.underlying22 rfl (X0.out _ H.frame 1 _ rfl) (by kernel_rfl)) hK) ?_
        refine gr_val rfl (by kernel_rfl) (fun a V H K Q hK => op_quiet (quiet_bld 34 _ _ (bld1 (a := 3) (H.rel 3 25 (by kernel_rfl) (by kernel_rfl) rfl)) #[.bool false, .bool false, .slice none 0 0, .slice A1 n1 c1, .slice none 0 0] (by kernel_rfl) (by kernel_rfl)) hK) ?_
        refine gr_is rfl (by kernel_rfl) (fun a V H K Q hK => by
            obtain ⟨v0, v1, v2, v3, v4, e22, h22⟩ := (show SxV S0 w0.heap.size (atom star) (a.eval (.tmp 22)) V from (H.rel 0 22 (by kernel_rfl) (by kernel_rfl) rfl))
            obtain ⟨u0, u1, u2, u3, u4, e23, h23⟩ := (show SxV S0 w0.heap.size (atom prefW) (a.eval (.tmp 23)) V from (H.rel 1 23 (by kernel_rfl) (by kernel_rfl) rfl))
            refine op_sx3 (.tmp 22) (.tmp 23) (.tmp 26) e22 e23 (H.rel 4 26 (by kernel_rfl) (by kernel_rfl) rfl) (by kernel_rfl) (hK _ _ (below_new _ _) ?_)
            exact sls_lit3 H.frame.size h22 h23 (sIn_atomD (R1.out.old (by omega) H.frame) b11 b12)) ?_
        exact gr_nil
      case hfp =>
        intro x V hF
        have rv0 := hF.rel 0 _ rfl
        generalize hy0 : x 0 = y0 at rv0 ⊢
        have rv1 := hF.rel 1 _ rfl
        generalize hy1 : x 1 = y1 at rv1 ⊢
        have ev2 : x 2 = .pointer (some ⟨w.heap.size, 1, none⟩) := hF.rel 2 _ rfl
        have ev3 : x 3 = .slice A1 n1 c1 := hF.rel 3 _ rfl
        have ev4 : x 4 = .agg #[.bool false, .bool false, .slice none 0 0, .slice A1 n1 c1, .slice none 0 0] := hF.rel 4 _ rfl
        have rv5 := hF.rel 5 _ rfl
        generalize hy5 : x 5 = y5 at rv5 ⊢
        have hbf := hF.frame
        clear hF
        simp only [Sch.finL, zA, zB, zC, hy0, hy1, ev2, ev3, ev4, hy5]
        clear hy0 hy1 ev2 ev3 ev4 hy5
        have KL := hid (pList_any rv5)
        have hbV := hbf
        clear rv0 rv1 rv5 hbf
        go_wp2_with first | (go_at_call 76; refine (KL.out).mono ?_; rintro e Vc ⟨vv, rfl, hx, hb⟩; have hVc := next_below hbV hb; obtain ⟨s0, s1, D1, m1, j1, D2, m2, j2, D3, m3, j3, rfl, hbk, hfx, hfb⟩ := FIN.out _ _ hVc hx; have HFX := hid hfx; have HFB := hid hfb; clear hx hfx hfb hb) | (refine wpList_store_row rfl 34 (.tmp 2) (.tmp 28) rfl (w.heap.size + 1) #[.bool s0, .bool s1, .slice D1 m1 j1, .slice D2 m2 j2, .slice D3 m3 j3] rfl rfl 34 #[.bool false, .bool false, .slice none 0 0, .slice none 0 0, .slice none 0 0] hbk infoSx5 rfl (one5 _ _ _ _ _ _ _ _ _ _ _) ?_)
        rw [HV.out]
        exact bodyPost_ret (v := .agg #[.bool s0, .bool s1, .slice D1 m1 j1, .slice D2 m2 j2, .slice D3 m3 j3]) (results_cell_row Tryz.results55 _ _ (w.heap.size + 1) 34 #[.bool s0, .bool s1, .slice D1 m1 j1, .slice D2 m2 j2, .slice D3 m3 j3] (0, 0) _ rfl (hbk.row _) Tryz.underlying34 rfl infoSx5) rfl ⟨_, rfl, HFX.out, HFB.out⟩
    have h4 : k = 4 := by omega
    by_cases k4 : k = 4
    · subst k4
      have HV : Hid (vt = list ([atom star, atom setW] ++ valuesT ks)) := by show _ = _; rw [HVT.out]; rfl
      rw [HV.out] at FIN
      go_upto_region 5 with fail
      try simp only [Act.put]
      refine wp_R [12, 13, 14, 15, 16, 17] [Rk.is (fun v V => SxV S0 w0.heap.size (atom star) v V) (fun _ _ _ h hb => h.old hb), Rk.is (fun v V => SxV S0 w0.heap.size (atom setW) v V) (fun _ _ _ h hb => h.old hb), Rk.is (fun v V => ∃ g, v = .slice (some ⟨g, 0, none⟩) 2 2 ∧ SlS S0 w0.heap.size [atom star, atom setW] v V) (fun _ _ _ h hb => by obtain ⟨g, e, hh⟩ := h; exact ⟨g, e, hh.old hb⟩), Rk.val (.pointer (some ⟨w.heap.size, 2, none⟩)), Rk.val (.slice A2 n2 c2), Rk.is (fun v V => SlS S0 w0.heap.size (valuesT ks) v V) (fun _ _ _ h hb => h.old hb)] rfl (by kernel_rfl) (by kernel_rfl) (by kernel_rfl) (by kernel_rfl) ?hgq _ (by rfl) ?hfq
      case hgq =>
        refine gr_is rfl (by kernel_rfl) (fun a V H K Q hK => op_callR #[.const (.string ⟨#[42]⟩)] #[.string (bT star)] (by kernel_rfl) (by kernel_rfl) (by kernel_rfl) (map1 (x := .const (.string ⟨#[42]⟩)) rfl) (pAtom_sx star V HST.out H.frame.size) (by kernel_rfl) hK) ?_
        refine gr_is rfl (by kernel_rfl) (fun a V H K Q hK => op_callR #[.const (.string ⟨#[115, 101, 116]⟩)] #[.string (bT setW)] (by kernel_rfl) (by kernel_rfl) (by kernel_rfl) (map1 (x := .const (.string ⟨#[115, 101, 116]⟩)) rfl) (pAtom_sx setW V HSW.out H.frame.size) (by kernel_rfl) hK) ?_
        refine gr_is rfl (by kernel_rfl) (fun a V H K Q hK => by
            obtain ⟨v0, v1, v2, v3, v4, e12, h12⟩ := (show SxV S0 w0.heap.size (atom star) (a.eval (.tmp 12)) V from (H.rel 0 12 (by kernel_rfl) (by kernel_rfl) rfl))
            obtain ⟨u0, u1, u2, u3, u4, e13, h13⟩ := (show SxV S0 w0.heap.size (atom setW) (a.eval (.tmp 13)) V from (H.rel 1 13 (by kernel_rfl) (by kernel_rfl) rfl))
            refine op_sx2 (.tmp 12) (.tmp 13) e12 e13 (by kernel_rfl) (hK _ _ (below_new _ _) ?_)
            exact ⟨_, rfl, sls_lit2 H.frame.size h12 h13⟩) ?_
        refine gr_val rfl (by kernel_rfl) (fun a V H K Q hK => op_quiet (quiet_fld _ (.tmp 1) 2 _ _ (H.old 1 (by kernel_rfl) (by kernel_rfl)) (fT2 _ 0) (by kernel_rfl)) hK) ?_
        refine gr_val rfl (by kernel_rfl) (fun a V H K Q hK => op_quiet (quiet_cell _ (.tmp 15) _ (H.rel 3 15 (by kernel_rfl) (by kernel_rfl) rfl) Tryz.underlying23 rfl (X0.out _ H.frame 2 _ rfl) (by kernel_rfl)) hK) ?_
        refine gr_is rfl (by kernel_rfl) (fun a V H K Q hK => by
            have hc : Calls Tryz.prog 77 #[.slice A2 n2 c2] V fun e w' => ∃ v, e = .returned v ∧ SlS S0 w0.heap.size (valuesT ks) v w' ∧ Below V.heap.size V w' := by
              refine (HWA.out V H.frame).mono ?_
              rintro e V' ⟨v, rfl, ho, hb⟩
              exact ⟨v, rfl, ho.toS H.frame.size (by have := HLN.out; omega), hb⟩
            exact op_callR #[.tmp 16] #[.slice A2 n2 c2] (by kernel_rfl) (by kernel_rfl) (by kernel_rfl) (map1 (H.rel 4 16 (by kernel_rfl) (by kernel_rfl) rfl)) hc (by kernel_rfl) hK) ?_
        exact gr_nil
      case hfq =>
        intro x V hF
        have rv0 := hF.rel 0 _ rfl
        generalize hy0 : x 0 = y0 at rv0 ⊢
        have rv1 := hF.rel 1 _ rfl
        generalize hy1 : x 1 = y1 at rv1 ⊢
        have rv2 := hF.rel 2 _ rfl
        generalize hy2 : x 2 = y2 at rv2 ⊢
        have ev3 : x 3 = .pointer (some ⟨w.heap.size, 2, none⟩) := hF.rel 3 _ rfl
        have ev4 : x 4 = .slice A2 n2 c2 := hF.rel 4 _ rfl
        have rv5 := hF.rel 5 _ rfl
        generalize hy5 : x 5 = y5 at rv5 ⊢
        have hbf := hF.frame
        clear hF
        simp only [Sch.finL, zA, zB, zC, hy0, hy1, hy2, ev3, ev4, hy5]
        clear hy0 hy1 hy2 ev3 ev4 hy5
        obtain ⟨gg, eg, hg2⟩ := rv2
        subst eg
        have hbV := hbf
        refine wpList_appF rfl (.tmp 14) (.tmp 17) rfl (Sd := S0) (B := w0.heap.size) (ks := [atom star, atom setW]) (ls := valuesT ks) hbV.size rfl hg2 rfl rv5 (by decide) (by have := HLN.out; omega) ?_
        intro v' V3 hsl hba
        have KL := hid (pList_any hsl)
        have hb3 := next_below hbV hba
        clear rv0 rv1 rv5 hbf hg2 hsl hba
        go_wp2_with first | (go_at_call 76; refine (KL.out).mono ?_; rintro e Vc ⟨vv, rfl, hx, hb⟩; have hVc := next_below hb3 hb; obtain ⟨s0, s1, D1, m1, j1, D2, m2, j2, D3, m3, j3, rfl, hbk, hfx, hfb⟩ := FIN.out _ _ hVc hx; have HFX := hid hfx; have HFB := hid hfb; clear hx hfx hfb hb) | (refine wpList_store_row rfl 34 (.tmp 2) (.tmp 19) rfl (w.heap.size + 1) #[.bool s0, .bool s1, .slice D1 m1 j1, .slice D2 m2 j2, .slice D3 m3 j3] rfl rfl 34 #[.bool false, .bool false, .slice none 0 0, .slice none 0 0, .slice none 0 0] hbk infoSx5 rfl (one5 _ _ _ _ _ _ _ _ _ _ _) ?_)
        rw [HV.out]
        exact bodyPost_ret (v := .agg #[.bool s0, .bool s1, .slice D1 m1 j1, .slice D2 m2 j2, .slice D3 m3 j3]) (results_cell_row Tryz.results55 _ _ (w.heap.size + 1) 34 #[.bool s0, .bool s1, .slice D1 m1 j1, .slice D2 m2 j2, .slice D3 m3 j3] (0, 0) _ rfl (hbk.row _) Tryz.underlying34 rfl infoSx5) rfl ⟨_, rfl, HFX.out, HFB.out⟩
    exact absurd h4 k4
end Go.Proofs.YtinlonpcakkfhaaGreatDoor
end
section
set_option maxRecDepth 100000
namespace Go.Proofs.YtinlonpcakkfhaaGreatDoor
open Go Go.Proofs Go.RowKit Sx _root_.Ord11 Go.Proofs.YtinlonpcakkfhaaGreatDoor.Ord11 _root_.Tag12 Sch
def ValEndT (w : World) (t : TG) (e : Ending) (w' : World) : Prop :=
  (mayT t = true ∧ ∃ v0 v1 v2 v3 v4, e = .returned (.agg #[v0, v1, v2, v3, v4]) ∧ SIn w' (fun b => w.heap.size ≤ b) (valueT t) [v0, v1, v2, v3, v4] ∧ Below w.heap.size w w') ∨ (mayT t = false ∧ ThrownT e ∧ Below w.heap.size w w')
set_option maxHeartbeats 8000000 in
theorem pValueOf_any (t : TG) (w : World) (S : Nat → Prop) (cs : List Value) (hs : TIn w S t cs) (hf : fineT t = true) (ht : Tab w) (hto : OrdT w) :
    Calls Tryz.prog 28 #[.agg cs.toArray] w (ValEndT w t) := by
  obtain ⟨k, d, ⟨o, ⟨i1, p1, l1⟩, ⟨i2, p2, l2⟩⟩, ks, A1, n1, c1, A2, n2, c2, A3, n3, c3, A4, n4, c4, eT, rfl⟩ := hs.form_
  dsimp only at hs ⊢
  obtain ⟨w0, hw0⟩ : ∃ w0, w0 = (((w.alloc (.cells #[.int .u8 k, .slice A1 n1 c1, .slice A2 n2 c2, .int .u8 o, .bool i1, .bool p1, .slice A3 n3 c3, .bool i2, .bool p2, .slice A4 n4 c4] 29)).alloc (.cells #[.bool false, .bool false, .slice none 0 0, .slice none 0 0, .slice none 0 0] 34)).alloc (.cells #[.int .i64 512] 3)) := ⟨_, rfl⟩
  have HB0 : Hid (Below w.heap.size w w0) := by
    show Below _ _ _
    rw [hw0]
    exact (((Below.refl w.heap.size w).alloc (Nat.le_refl _) _).alloc (by simp; try omega) _).alloc (by simp; try omega) _
  have B0 : Blk w0 w.heap.size 29 #[.int .u8 k, .slice A1 n1 c1, .slice A2 n2 c2, .int .u8 o, .bool i1, .bool p1, .slice A3 n3 c3, .bool i2, .bool p2, .slice A4 n4 c4] := by
    rw [hw0]
    exact ((Blk.new w 29 #[.int .u8 k, .slice A1 n1 c1, .slice A2 n2 c2, .int .u8 o, .bool i1, .bool p1, .slice A3 n3 c3, .bool i2, .bool p2, .slice A4 n4 c4]).alloc (.cells #[.bool false, .bool false, .slice none 0 0, .slice none 0 0, .slice none 0 0] 34)).alloc (.cells #[.int .i64 512] 3)
  have X0 : Hid (∀ W, Below w0.heap.size w0 W → ∀ kx u, (#[.int .u8 k, .slice A1 n1 c1, .slice A2 n2 c2, .int .u8 o, .bool i1, .bool p1, .slice A3 n3 c3, .bool i2, .bool p2, .slice A4 n4 c4] : Array Value)[kx]? = some u → W.cell? ⟨w.heap.size, kx, none⟩ = some u) := fun W hW kx u hk => cell_below hW ((B0.cell kx).trans hk) B0.lt
  have B1 : Blk w0 (w.heap.size + 1) 34 #[.bool false, .bool false, .slice none 0 0, .slice none 0 0, .slice none 0 0] := by
    rw [hw0]
    have h := (Blk.new (w.alloc (.cells #[.int .u8 k, .slice A1 n1 c1, .slice A2 n2 c2, .int .u8 o, .bool i1, .bool p1, .slice A3 n3 c3, .bool i2, .bool p2, .slice A4 n4 c4] 29)) 34 #[.bool false, .bool false, .slice none 0 0, .slice none 0 0, .slice none 0 0]).alloc (.cells #[.int .i64 512] 3)
    simpa using h
  have X1 : Hid (∀ W, Below w0.heap.size w0 W → ∀ kx u, (#[.bool false, .bool false, .slice none 0 0, .slice none 0 0, .slice none 0 0] : Array Value)[kx]? = some u → W.cell? ⟨(w.heap.size + 1), kx, none⟩ = some u) := fun W hW kx u hk => cell_below hW ((B1.cell kx).trans hk) B1.lt
  have B2 : Blk w0 (w.heap.size + 1 + 1) 3 #[.int .i64 512] := by
    rw [hw0]
    have h := Blk.new ((w.alloc (.cells #[.int .u8 k, .slice A1 n1 c1, .slice A2 n2 c2, .int .u8 o, .bool i1, .bool p1, .slice A3 n3 c3, .bool i2, .bool p2, .slice A4 n4 c4] 29)).alloc (.cells #[.bool false, .bool false, .slice none 0 0, .slice none 0 0, .slice none 0 0] 34)) 3 #[.int .i64 512]
    simpa using h
  have X2 : Hid (∀ W, Below w0.heap.size w0 W → ∀ kx u, (#[.int .i64 512] : Array Value)[kx]? = some u → W.cell? ⟨(w.heap.size + 1 + 1), kx, none⟩ = some u) := fun W hW kx u hk => cell_below hW ((B2.cell kx).trans hk) B2.lt
  have HR : Below w0.heap.size w0 w0 := Below.refl _ _
  have hz0 : w0.heap.size = w.heap.size + 3 := by rw [hw0]; simp
  have HBW0 := HB0.out
  obtain ⟨S0, hS0⟩ : ∃ S0 : Nat → Prop, S0 = fun b => S b ∧ b < w.heap.size := ⟨_, rfl⟩
  have hs0 : TIn w0 S0 t [.int .u8 k, .slice A1 n1 c1, .slice A2 n2 c2, .int .u8 o, .bool i1, .bool p1, .slice A3 n3 c3, .bool i2, .bool p2, .slice A4 n4 c4] := by rw [hS0]; exact hs.size_.old HBW0
  have HSL : Hid (∀ b, S0 b → b ≠ w.heap.size + 2) := fun b hb => by rw [hS0] at hb; have := hb.2; omega
  obtain ⟨oc, hoc⟩ : ∃ x, x = cnt ordC 512 t := ⟨_, rfl⟩
  have K1 := pSomeT_any t w0 S0 _ (w.heap.size + 2) 512 hs0 hf B2 (Nat.le_refl _) HSL.out
  obtain ⟨m, hmm⟩ : ∃ x, x = may (valueT t) := ⟨_, rfl⟩
  have HME : Hid (mayT t = (oc.isSome && m)) := by show _ = _; rw [mayT_cnt, hoc, hmm]
  have HCS : Hid (∀ j, oc = some j → rightT ordC t = true ∧ countT t ≤ 512) := fun j hj => by
    rw [hoc, cnt_spec] at hj
    split at hj
    · assumption
    · cases hj
  rw [← hoc] at K1
  have HV : Hid (∀ W, Below w.heap.size w W → Tab W ∧ OrdT W) := fun W hW => ⟨ht.old hW, hto.old hW⟩
  have K1 := hid K1
  have HIN : Hid (∀ W, w0.grownBy W (some (w.heap.size + 2)) → TIn W S0 t [.int .u8 k, .slice A1 n1 c1, .slice A2 n2 c2, .int .u8 o, .bool i1, .bool p1, .slice A3 n3 c3, .bool i2, .bool p2, .slice A4 n4 c4]) := fun W hW => hs0.grown hW (fun b hb e => HSL.out b hb (by injection e))
  have HX0 : Hid (∀ W, w0.grownBy W (some (w.heap.size + 2)) → Blk W w.heap.size 29 #[.int .u8 k, .slice A1 n1 c1, .slice A2 n2 c2, .int .u8 o, .bool i1, .bool p1, .slice A3 n3 c3, .bool i2, .bool p2, .slice A4 n4 c4]) := fun W hW => B0.grown hW (fun e => by injection e with e; omega)
  have HX1 : Hid (∀ W, w0.grownBy W (some (w.heap.size + 2)) → Blk W (w.heap.size + 1) 34 #[.bool false, .bool false, .slice none 0 0, .slice none 0 0, .slice none 0 0]) := fun W hW => B1.grown hW (fun e => by injection e with e; omega)
  have HGB : Hid (∀ W, w0.grownBy W (some (w.heap.size + 2)) → Below w.heap.size w W) := fun W hW => HBW0.grown hW (by omega) (fun b hb => by injection hb with hb; omega)
  have hmf : ∀ (fn : Fn) (first cap : Array Value) (w : World), (Instr.makeFunc fn first cap).run Tryz.prog w = .ok (.func fn first cap) w := fun _ _ _ _ => rfl
  have hmm' := hid hmm
  clear hs hs0 hf ht hto hoc hmm hS0 eT B0 B1 B2
  go_enter Tryz.func28, Tryz.ntmps28
  go_upto_region 2 with fail
  rw [← hw0]
  clear hw0
  have x0_0 := X0.out _ HR 0 _ rfl
  have x0_1 := X0.out _ HR 1 _ rfl
  have x0_2 := X0.out _ HR 2 _ rfl
  have x0_3 := X0.out _ HR 3 _ rfl
  have x0_4 := X0.out _ HR 4 _ rfl
  have x0_5 := X0.out _ HR 5 _ rfl
  have x0_6 := X0.out _ HR 6 _ rfl
  have x0_7 := X0.out _ HR 7 _ rfl
  have x0_8 := X0.out _ HR 8 _ rfl
  have x0_9 := X0.out _ HR 9 _ rfl
  have x1_0 := X1.out _ HR 0 _ rfl
  have x1_1 := X1.out _ HR 1 _ rfl
  have x1_2 := X1.out _ HR 2 _ rfl
  have x1_3 := X1.out _ HR 3 _ rfl
  have x1_4 := X1.out _ HR 4 _ rfl
  have x2_0 := X2.out _ HR 0 _ rfl
  cases oc with
  | none =>
    have HMF : Hid (mayT t = false) := by show _ = _; rw [HME.out]; rfl
    go_wp2_with first
      | (go_at_call 52; refine (K1.out).mono ?_; rintro e w1 ⟨m1, rfl, hl, hj, hgr1⟩; have hb1 := HGB.out _ hgr1; clear hl hj)
      | (go_at_call 51; refine (must_false _).mono ?_; rintro e w2 ⟨he, rfl⟩; have he2 : e = .panicked [{ v := .iface 35 (.int .i64 13), recovered := false }] := he; subst he2)
    exact ⟨rfl, .inr ⟨HMF.out, rfl, hb1⟩⟩
  | some j =>
    obtain ⟨hri, hcn⟩ := HCS.out j rfl
    have HMF : Hid (mayT t = m) := by show _ = _; rw [HME.out]; simp
    go_upto_region 3 with first
      | (go_at_call 52; refine (K1.out).mono ?_; rintro e w1 ⟨m1, rfl, hl, hj, hgr1⟩; clear hl hj)
      | (go_at_call 51; refine (must_true _).mono ?_; rintro e w2 ⟨rfl, rfl⟩)
    have HB1 := hid (HGB.out _ hgr1)
    have HBX := hid (HX1.out _ hgr1)
    have BX := HX0.out _ hgr1
    have KW := hid ((pWrite_any t) _ S0 _ (HIN.out _ hgr1) (HV.out _ HB1.out).2 hri hcn)
    have y0 := BX.cell 0
    have y1 := BX.cell 1
    have y2 := BX.cell 2
    have y3 := BX.cell 3
    have y4 := BX.cell 4
    have y5 := BX.cell 5
    have y6 := BX.cell 6
    have y7 := BX.cell 7
    have y8 := BX.cell 8
    have y9 := BX.cell 9
    clear BX HIN HX0 HX1 HGB hri hcn HCS K1 x0_0 x0_1 x0_2 x0_3 x0_4 x0_5 x0_6 x0_7 x0_8 x0_9 x1_0 x1_1 x1_2 x1_3 x1_4 x2_0
    go_upto_region 4 with (go_at_call 55; refine (KW.out).mono ?_; rintro e V2 ⟨vv, rfl, hx, hb2⟩; obtain ⟨s0, s1, D1, m1', j1, D2, m2, j2, D3, m3, j3, rfl, hin⟩ := hx.five; clear hx)
    obtain ⟨W3, hW3⟩ : ∃ W3, W3 = V2.alloc (.cells #[.bool s0, .bool s1, .slice D1 m1' j1, .slice D2 m2 j2, .slice D3 m3 j3] 34) := ⟨_, rfl⟩
    rw [← hW3]
    have hb3 : Below V2.heap.size V2 W3 := by rw [hW3]; exact below_new _ _
    have B3 : Blk W3 V2.heap.size 34 #[.bool s0, .bool s1, .slice D1 m1' j1, .slice D2 m2 j2, .slice D3 m3 j3] := by rw [hW3]; exact Blk.new _ _ _
    have hb13 := next_below hb2 hb3
    have HB3 := hid (next_below HB1.out hb13)
    have HBX3 := hid (HBX.out.old hb13)
    have hin3 := hin.old hb3
    have KM := may_any (valueT t) W3 _ _ hin3 (HV.out _ HB3.out).1
    rw [← hmm'.out] at KM
    have KM := hid KM
    have HI3 := hid hin3
    have HB3C := hid B3
    have z0 := B3.cell 0
    have z1 := B3.cell 1
    have z2 := B3.cell 2
    have z3 := B3.cell 3
    have z4 := B3.cell 4
    generalize V2.heap.size = g4 at *
    clear hb2 hb3 hW3 B3 hb13 hin hin3 KW
    cases m with
    | false =>
      go_wp2_with first
        | (go_at_call 38; refine (KM.out).mono ?_; rintro e w4 ⟨rfl, hb4⟩)
        | (go_at_call 51; refine (must_false _).mono ?_; rintro e w5 ⟨he, rfl⟩; have he2 : e = .panicked [{ v := .iface 35 (.int .i64 13), recovered := false }] := he; subst he2)
      exact ⟨rfl, .inr ⟨HMF.out, rfl, next_below HB3.out hb4⟩⟩
    | true =>
      go_upto_region 5 with first
        | (go_at_call 38; refine (KM.out).mono ?_; rintro e w4 ⟨rfl, hb4⟩)
        | (go_at_call 51; refine (must_true _).mono ?_; rintro e w5 ⟨rfl, rfl⟩)
      have BZ := HB3C.out.old hb4
      have q0 := BZ.cell 0
      have q1 := BZ.cell 1
      have q2 := BZ.cell 2
      have q3 := BZ.cell 3
      have q4 := BZ.cell 4
      have KC := hid (clone_any (valueT t) _ _ _ (HI3.out.old hb4))
      have HB4 := hid (next_below HB3.out hb4)
      have HBX4 := hid (HBX3.out.old hb4)
      have hsz4 := HBX4.out.lt
      clear BZ z0 z1 z2 z3 z4 hb4
      go_wp2_with first
        | (go_at_call 56; refine (KC.out).mono ?_; rintro e w6 ⟨u0, u1, u2, u3, u4, rfl, hin6, hb6⟩; obtain ⟨s0', s1', E1, n1', k1, E2, n2', k2, E3, n3', k3, eE⟩ := hin6.lets; injection eE with e0 eE; injection eE with e1 eE; injection eE with e2 eE; injection eE with e3 eE; injection eE with e4 eE; subst e0 e1 e2 e3 e4; have BY := HBX4.out.old hb6; have HIN6 := hid hin6; have HB6 := hid (next_below HB4.out hb6); clear hin6 hb6 eE)
        | (refine wpList_store_row rfl 34 (.tmp 2) (.tmp 16) rfl (w.heap.size + 1) #[.bool s0', .bool s1', .slice E1 n1' k1, .slice E2 n2' k2, .slice E3 n3' k3] rfl rfl 34 #[.bool false, .bool false, .slice none 0 0, .slice none 0 0, .slice none 0 0] BY infoSx5 rfl (one5 _ _ _ _ _ _ _ _ _ _ _) ?_)
      exact bodyPost_ret (v := .agg #[.bool s0', .bool s1', .slice E1 n1' k1, .slice E2 n2' k2, .slice E3 n3' k3]) (results_cell_row Tryz.results28 _ _ (w.heap.size + 1) 34 #[.bool s0', .bool s1', .slice E1 n1' k1, .slice E2 n2' k2, .slice E3 n3' k3] (0, 0) _ rfl (BY.row _) Tryz.underlying34 rfl infoSx5) rfl (.inl ⟨HMF.out, _, _, _, _, _, rfl, (HIN6.out.keep fun q hq => row_cell (by omega)).more fun b hb => by omega, below_row HB6.out (by omega) _⟩)
end Go.Proofs.YtinlonpcakkfhaaGreatDoor
end
section
set_option maxRecDepth 100000
namespace Go.Proofs.YtinlonpcakkfhaaGreatDoor
open Go Go.Proofs Go.RowKit Sx _root_.Ord11 Go.Proofs.YtinlonpcakkfhaaGreatDoor.Ord11 _root_.Tag12 Sch
theorem ta_one (t : TypeId) (d : TypeDesc) (hu : Tryz.prog.underlying t = some d) (hd : ∀ x, d ≠ .interface x) (v : Value) (x : TypeId) (w : World) :
    (Instr.typeAssert (.iface t v) x t false).run Tryz.prog w = .ok v w := by
  cases d <;> first | exact absurd rfl (hd _) | simp [Instr.typeAssert, run_underlying hu, go_sem, Result.andThen]
theorem ta_errno (v : Value) (x : TypeId) (w : World) : (Instr.typeAssert (.iface 35 v) x 35 false).run Tryz.prog w = .ok v w :=
  ta_one _ (.int .i64) (by kernel_rfl) (fun _ e => by cases e) v x w
set_option maxHeartbeats 4000000 in
theorem throw_ts (a : Nat) (w : World) (hc : w.cell? ⟨a, 0, none⟩ = some (.int .i64 0)) (hz : w.frozen? ⟨a, 0, none⟩ = false) :
    CallsD Tryz.prog 50 #[.pointer (some ⟨a, 0, none⟩)] (.panicking [{ v := .iface 35 (.int .i64 13), recovered := false }]) w fun e u' w' =>
      e = .returned (.tuple #[]) ∧ u' = .panicking [{ v := .iface 35 (.int .i64 13), recovered := true }] ∧ w' = w.setCell ⟨a, 0, none⟩ (.int .i64 13) := by
  have ta := ta_errno (.int .i64 13)
  refine callsD_of_wpS Tryz.func50 rfl fun c₀ cs hu => ?_
  apply wpS_seq
  apply wpS_region
  simp [wpOpsS, go_sem, recoverD, hu, Tryz.ntmps50, Exit.thenS]
  refine wpS_of_wp ?_
  simp only [Array.replicate]
  go_wp2_with fail
  simp [bodyPostS, results, Tryz.results50]
set_option maxHeartbeats 4000000 in
theorem idle_ts (a : Addr) (w : World) :
    CallsD Tryz.prog 50 #[.pointer (some a)] .returning w fun e u' w' => e = .returned (.tuple #[]) ∧ u' = .returning ∧ w' = w := by
  refine callsD_of_wpS Tryz.func50 rfl fun c₀ cs hu => ?_
  apply wpS_seq
  apply wpS_region
  simp [wpOpsS, go_sem, recoverD, hu, Tryz.ntmps50, Exit.thenS]
  refine wpS_of_wp ?_
  simp only [Array.replicate]
  go_wp2_with fail
  cases c₀
  simp_all [bodyPostS, results, Tryz.results50]
set_option maxHeartbeats 4000000 in
theorem throw_st (a : Nat) (w : World) (hc : w.cell? ⟨a, 0, none⟩ = some (.int .i64 0)) (hz : w.frozen? ⟨a, 0, none⟩ = false) :
    CallsD Tryz.prog 58 #[.pointer (some ⟨a, 0, none⟩)] (.panicking [{ v := .iface 35 (.int .i64 13), recovered := false }]) w fun e u' w' =>
      e = .returned (.tuple #[]) ∧ u' = .panicking [{ v := .iface 35 (.int .i64 13), recovered := true }] ∧ w' = w.setCell ⟨a, 0, none⟩ (.int .i64 13) := by
  have ta := ta_errno (.int .i64 13)
  refine callsD_of_wpS Tryz.func58 rfl fun c₀ cs hu => ?_
  apply wpS_seq
  apply wpS_region
  simp [wpOpsS, go_sem, recoverD, hu, Tryz.ntmps58, Exit.thenS]
  refine wpS_of_wp ?_
  simp only [Array.replicate]
  go_wp2_with fail
  simp [bodyPostS, results, Tryz.results58]
set_option maxHeartbeats 4000000 in
theorem idle_st (a : Addr) (w : World) :
    CallsD Tryz.prog 58 #[.pointer (some a)] .returning w fun e u' w' => e = .returned (.tuple #[]) ∧ u' = .returning ∧ w' = w := by
  refine callsD_of_wpS Tryz.func58 rfl fun c₀ cs hu => ?_
  apply wpS_seq
  apply wpS_region
  simp [wpOpsS, go_sem, recoverD, hu, Tryz.ntmps58, Exit.thenS]
  refine wpS_of_wp ?_
  simp only [Array.replicate]
  go_wp2_with fail
  cases c₀
  simp_all [bodyPostS, results, Tryz.results58]
set_option maxHeartbeats 8000000 in
theorem pCaughtT (t : TG) (w : World) (S : Nat → Prop) (cs : List Value) (hs : TIn w S t cs) (hf : fineT t = true) (ht : Tab w) (hto : OrdT w) :
    Calls Tryz.prog 27 #[.func (.func 28) #[] #[], .agg cs.toArray] w fun e w' => ∃ v0 v1 v2 v3 v4, e = .returned (.tuple #[.agg #[v0, v1, v2, v3, v4], .int .i64 (putR t).2]) ∧ SIn w' (fun b => w.heap.size ≤ b) (putR t).1 [v0, v1, v2, v3, v4] ∧ Below w.heap.size w w' := by
  have hmf : ∀ (fn : Fn) (first cap : Array Value) (w : World), (Instr.makeFunc fn first cap).run Tryz.prog w = .ok (.func fn first cap) w := fun _ _ _ _ => rfl
  obtain ⟨k, d, ⟨o, ⟨i1, p1, l1⟩, ⟨i2, p2, l2⟩⟩, ks, A1, n1, c1, A2, n2, c2, A3, n3, c3, A4, n4, c4, eT, rfl⟩ := hs.form_
  dsimp only at hs ⊢
  obtain ⟨w0, hw0⟩ : ∃ w0, w0 = (((w.alloc (.cells #[.int .u8 k, .slice A1 n1 c1, .slice A2 n2 c2, .int .u8 o, .bool i1, .bool p1, .slice A3 n3 c3, .bool i2, .bool p2, .slice A4 n4 c4] 29)).alloc (.cells #[.bool false, .bool false, .slice none 0 0, .slice none 0 0, .slice none 0 0] 34)).alloc (.cells #[.int .i64 0] 35)) := ⟨_, rfl⟩
  have HB0 : Hid (Below w.heap.size w w0) := by
    show Below _ _ _
    rw [hw0]
    exact (((Below.refl w.heap.size w).alloc (Nat.le_refl _) _).alloc (by simp; try omega) _).alloc (by simp; try omega) _
  have B0 : Blk w0 w.heap.size 29 #[.int .u8 k, .slice A1 n1 c1, .slice A2 n2 c2, .int .u8 o, .bool i1, .bool p1, .slice A3 n3 c3, .bool i2, .bool p2, .slice A4 n4 c4] := by
    rw [hw0]
    exact ((Blk.new w 29 #[.int .u8 k, .slice A1 n1 c1, .slice A2 n2 c2, .int .u8 o, .bool i1, .bool p1, .slice A3 n3 c3, .bool i2, .bool p2, .slice A4 n4 c4]).alloc (.cells #[.bool false, .bool false, .slice none 0 0, .slice none 0 0, .slice none 0 0] 34)).alloc (.cells #[.int .i64 0] 35)
  have X0 : Hid (∀ W, Below w0.heap.size w0 W → ∀ kx u, (#[.int .u8 k, .slice A1 n1 c1, .slice A2 n2 c2, .int .u8 o, .bool i1, .bool p1, .slice A3 n3 c3, .bool i2, .bool p2, .slice A4 n4 c4] : Array Value)[kx]? = some u → W.cell? ⟨w.heap.size, kx, none⟩ = some u) := fun W hW kx u hk => cell_below hW ((B0.cell kx).trans hk) B0.lt
  have B1 : Blk w0 (w.heap.size + 1) 34 #[.bool false, .bool false, .slice none 0 0, .slice none 0 0, .slice none 0 0] := by
    rw [hw0]
    have h := (Blk.new (w.alloc (.cells #[.int .u8 k, .slice A1 n1 c1, .slice A2 n2 c2, .int .u8 o, .bool i1, .bool p1, .slice A3 n3 c3, .bool i2, .bool p2, .slice A4 n4 c4] 29)) 34 #[.bool false, .bool false, .slice none 0 0, .slice none 0 0, .slice none 0 0]).alloc (.cells #[.int .i64 0] 35)
    simpa using h
  have X1 : Hid (∀ W, Below w0.heap.size w0 W → ∀ kx u, (#[.bool false, .bool false, .slice none 0 0, .slice none 0 0, .slice none 0 0] : Array Value)[kx]? = some u → W.cell? ⟨(w.heap.size + 1), kx, none⟩ = some u) := fun W hW kx u hk => cell_below hW ((B1.cell kx).trans hk) B1.lt
  have B2 : Blk w0 (w.heap.size + 1 + 1) 35 #[.int .i64 0] := by
    rw [hw0]
    have h := Blk.new ((w.alloc (.cells #[.int .u8 k, .slice A1 n1 c1, .slice A2 n2 c2, .int .u8 o, .bool i1, .bool p1, .slice A3 n3 c3, .bool i2, .bool p2, .slice A4 n4 c4] 29)).alloc (.cells #[.bool false, .bool false, .slice none 0 0, .slice none 0 0, .slice none 0 0] 34)) 35 #[.int .i64 0]
    simpa using h
  have X2 : Hid (∀ W, Below w0.heap.size w0 W → ∀ kx u, (#[.int .i64 0] : Array Value)[kx]? = some u → W.cell? ⟨(w.heap.size + 1 + 1), kx, none⟩ = some u) := fun W hW kx u hk => cell_below hW ((B2.cell kx).trans hk) B2.lt
  have HR : Below w0.heap.size w0 w0 := Below.refl _ _
  have hz0 : w0.heap.size = w.heap.size + 3 := by rw [hw0]; simp
  have KV := pValueOf_any t w0 S _ (hs.old HB0.out) hf (ht.old HB0.out) (hto.old HB0.out)
  have B0 := hid B0
  have B1 := hid B1
  have B2 := hid B2
  have x0_0 := B0.out.cell 0
  have x0_1 := B0.out.cell 1
  have x0_2 := B0.out.cell 2
  have x0_3 := B0.out.cell 3
  have x0_4 := B0.out.cell 4
  have x0_5 := B0.out.cell 5
  have x0_6 := B0.out.cell 6
  have x0_7 := B0.out.cell 7
  have x0_8 := B0.out.cell 8
  have x0_9 := B0.out.cell 9
  clear hs hf ht hto eT
  go_enter_defers Tryz.func27, Tryz.ntmps27
  go_upto_region 2 with fail
  rw [← hw0]
  clear hw0
  obtain ⟨mt, hmt⟩ : ∃ b, b = mayT t := ⟨_, rfl⟩
  have HMT := hid hmt
  cases mt with
  | true =>
    have HP : Hid (putR t = (valueT t, 0)) := by show _ = _; unfold putR; rw [← hmt, if_pos rfl]
    have KV' : Hid (Calls Tryz.prog 28 #[.agg #[.int .u8 k, .slice A1 n1 c1, .slice A2 n2 c2, .int .u8 o, .bool i1, .bool p1, .slice A3 n3 c3, .bool i2, .bool p2, .slice A4 n4 c4]] w0 fun e w' => ∃ v0 v1 v2 v3 v4, e = .returned (.agg #[v0, v1, v2, v3, v4]) ∧ SIn w' (fun b => w0.heap.size ≤ b) (valueT t) [v0, v1, v2, v3, v4] ∧ Below w0.heap.size w0 w') := by
      refine KV.mono ?_
      rintro e w' (⟨_, h⟩ | ⟨h, _⟩)
      · exact h
      · rw [← hmt] at h; cases h
    clear KV hmt
    go_wp2_with first
      | (go_at_call 28; refine (KV'.out).mono ?_; rintro e w1 ⟨u0, u1, u2, u3, u4, rfl, hin, hb1⟩; obtain ⟨s0, s1, D1, m1, j1, D2, m2, j2, D3, m3, j3, eE⟩ := hin.lets; injection eE with e0 eE; injection eE with e1 eE; injection eE with e2 eE; injection eE with e3 eE; injection eE with e4 eE; subst e0 e1 e2 e3 e4; have BY := B1.out.old hb1; have BE := B2.out.old hb1; have HIN := hid hin; have HB1 := hid hb1; clear hin hb1 eE)
      | (refine wpList_store_row rfl 34 (.tmp 4) (.tmp 9) rfl (w.heap.size + 1) #[.bool s0, .bool s1, .slice D1 m1 j1, .slice D2 m2 j2, .slice D3 m3 j3] rfl rfl 34 #[.bool false, .bool false, .slice none 0 0, .slice none 0 0, .slice none 0 0] BY infoSx5 rfl (one5 _ _ _ _ _ _ _ _ _ _ _) ?_; have BE2 := BE.rowFar (g' := w.heap.size + 1) (by omega) #[.bool s0, .bool s1, .slice D1 m1 j1, .slice D2 m2 j2, .slice D3 m3 j3]; have ee0 := BE2.cell 0; have fz0 := BE2.frozen 0)
    have BR := (BY.row #[.bool s0, .bool s1, .slice D1 m1 j1, .slice D2 m2 j2, .slice D3 m3 j3]).far (p := ⟨w.heap.size + 1 + 1, 0, none⟩) (by show w.heap.size + 1 ≠ w.heap.size + 1 + 1; omega) (.int .i64 0)
    have BF := BE2.set_ 0 (.int .i64 0)
    have HFIN : Hid (SIn ((w1.setRow (w.heap.size + 1) #[.bool s0, .bool s1, .slice D1 m1 j1, .slice D2 m2 j2, .slice D3 m3 j3]).setCell ⟨w.heap.size + 1 + 1, 0, none⟩ (.int .i64 0)) (fun b => w.heap.size ≤ b) (valueT t) [.bool s0, .bool s1, .slice D1 m1 j1, .slice D2 m2 j2, .slice D3 m3 j3] ∧ Below w.heap.size w ((w1.setRow (w.heap.size + 1) #[.bool s0, .bool s1, .slice D1 m1 j1, .slice D2 m2 j2, .slice D3 m3 j3]).setCell ⟨w.heap.size + 1 + 1, 0, none⟩ (.int .i64 0))) :=
      ⟨(HIN.out.keep fun q hq => (World.cell?_setCell_other _ _ _ _ (fun e => by subst e; have hq : w0.heap.size ≤ w.heap.size + 1 + 1 := hq; omega)).trans (row_cell (by omega))).more fun b hb => by omega, (below_row (next_below HB0.out HB1.out) (by omega) _).setCell (by show w.heap.size ≤ w.heap.size + 1 + 1; omega) _⟩
    generalize (w1.setRow (w.heap.size + 1) #[.bool s0, .bool s1, .slice D1 m1 j1, .slice D2 m2 j2, .slice D3 m3 j3]).setCell ⟨w.heap.size + 1 + 1, 0, none⟩ (.int .i64 0) = WW at *
    have d0 := BR.cell 0
    have d1 := BR.cell 1
    have d2 := BR.cell 2
    have d3 := BR.cell 3
    have d4 := BR.cell 4
    have g0 := BF.cell 0
    refine leaves_cons (f := 50) (args := #[.pointer (some ⟨w.heap.size + 1 + 1, 0, none⟩)]) (by simp) (by simp [go_sem]) ?_
    refine (idle_ts _ _).mono ?_
    rintro e u' w'' ⟨rfl, rfl, rfl⟩
    simp at d0 d1 d2 d3 d4 g0
    simp [Leaves, settle, results, Tryz.results27, go_sem, d0, d1, d2, d3, d4, g0]
    rw [HP.out]
    exact ⟨_, _, _, _, _, ⟨⟨rfl, rfl, rfl, rfl, rfl⟩, rfl⟩, HFIN.out⟩
  | false =>
    have HP : Hid (putR t = (zeroX, 13)) := by show _ = _; unfold putR; rw [← hmt, if_neg (by simp)]
    have KV' : Hid (Calls Tryz.prog 28 #[.agg #[.int .u8 k, .slice A1 n1 c1, .slice A2 n2 c2, .int .u8 o, .bool i1, .bool p1, .slice A3 n3 c3, .bool i2, .bool p2, .slice A4 n4 c4]] w0 fun e w' => ThrownT e ∧ Below w0.heap.size w0 w') := by
      refine KV.mono ?_
      rintro e w' (⟨h, _⟩ | ⟨_, h⟩)
      · rw [← hmt] at h; cases h
      · exact h
    clear KV hmt
    go_wp2_with (go_at_call 28; refine (KV'.out).mono ?_; rintro e w1 ⟨he, hb1⟩; have he2 : e = .panicked [{ v := .iface 35 (.int .i64 13), recovered := false }] := he; subst he2; clear he)
    have BY := B1.out.old hb1
    have BE := B2.out.old hb1
    have BR := BY.far (p := ⟨w.heap.size + 1 + 1, 0, none⟩) (by show w.heap.size + 1 ≠ w.heap.size + 1 + 1; omega) (.int .i64 13)
    have BF := BE.set_ 0 (.int .i64 13)
    have HFIN := hid ((next_below HB0.out hb1).setCell (p := ⟨w.heap.size + 1 + 1, 0, none⟩) (by show w.heap.size ≤ w.heap.size + 1 + 1; omega) (.int .i64 13))
    have d0 := BR.cell 0
    have d1 := BR.cell 1
    have d2 := BR.cell 2
    have d3 := BR.cell 3
    have d4 := BR.cell 4
    have g0 := BF.cell 0
    refine leaves_cons (f := 50) (args := #[.pointer (some ⟨w.heap.size + 1 + 1, 0, none⟩)]) (by simp) (by simp [go_sem]) ?_
    refine (throw_ts (w.heap.size + 1 + 1) _ (BE.cell 0) (BE.frozen 0)).mono ?_
    rintro e u' w'' ⟨rfl, rfl, hw⟩
    subst hw
    simp at d0 d1 d2 d3 d4 g0
    simp [Leaves, settle, results, Tryz.results27, go_sem, d0, d1, d2, d3, d4, g0]
    rw [HP.out]
    exact ⟨_, _, _, _, _, ⟨⟨rfl, rfl, rfl, rfl, rfl⟩, rfl⟩, .mk (xs := []) RIn.none_ ⟨Nat.le_refl _, by omega⟩ RIn.none_ ⟨Nat.le_refl _, by omega⟩ RIn.none_ ⟨Nat.le_refl _, by omega⟩ rfl (fun i t hit => by simp at hit), HFIN.out⟩
set_option maxHeartbeats 8000000 in
theorem pPut_any (t : TG) (w : World) (S : Nat → Prop) (cs : List Value) (hs : TIn w S t cs) (hf : fineT t = true) (ht : Tab w) (hto : OrdT w) :
    Calls Tryz.prog 10 #[.agg cs.toArray] w fun e w' => ∃ v0 v1 v2 v3 v4, e = .returned (.tuple #[.agg #[v0, v1, v2, v3, v4], .int .i64 (putR t).2]) ∧ SIn w' (fun b => w.heap.size ≤ b) (putR t).1 [v0, v1, v2, v3, v4] ∧ Below w.heap.size w w' := by
  obtain ⟨k, d, ⟨o, ⟨i1, p1, l1⟩, ⟨i2, p2, l2⟩⟩, ks, A1, n1, c1, A2, n2, c2, A3, n3, c3, A4, n4, c4, eT, rfl⟩ := hs.form_
  dsimp only at hs ⊢
  obtain ⟨w0, hw0⟩ : ∃ w0, w0 = ((w.alloc (.cells #[.int .u8 k, .slice A1 n1 c1, .slice A2 n2 c2, .int .u8 o, .bool i1, .bool p1, .slice A3 n3 c3, .bool i2, .bool p2, .slice A4 n4 c4] 29)).alloc (.cells #[.bool false, .bool false, .slice none 0 0, .slice none 0 0, .slice none 0 0] 34)) := ⟨_, rfl⟩
  have HB0 : Hid (Below w.heap.size w w0) := by
    show Below _ _ _
    rw [hw0]
    exact ((Below.refl w.heap.size w).alloc (Nat.le_refl _) _).alloc (by simp; try omega) _
  have B0 : Blk w0 w.heap.size 29 #[.int .u8 k, .slice A1 n1 c1, .slice A2 n2 c2, .int .u8 o, .bool i1, .bool p1, .slice A3 n3 c3, .bool i2, .bool p2, .slice A4 n4 c4] := by
    rw [hw0]
    exact (Blk.new w 29 #[.int .u8 k, .slice A1 n1 c1, .slice A2 n2 c2, .int .u8 o, .bool i1, .bool p1, .slice A3 n3 c3, .bool i2, .bool p2, .slice A4 n4 c4]).alloc (.cells #[.bool false, .bool false, .slice none 0 0, .slice none 0 0, .slice none 0 0] 34)
  have X0 : Hid (∀ W, Below w0.heap.size w0 W → ∀ kx u, (#[.int .u8 k, .slice A1 n1 c1, .slice A2 n2 c2, .int .u8 o, .bool i1, .bool p1, .slice A3 n3 c3, .bool i2, .bool p2, .slice A4 n4 c4] : Array Value)[kx]? = some u → W.cell? ⟨w.heap.size, kx, none⟩ = some u) := fun W hW kx u hk => cell_below hW ((B0.cell kx).trans hk) B0.lt
  have B1 : Blk w0 (w.heap.size + 1) 34 #[.bool false, .bool false, .slice none 0 0, .slice none 0 0, .slice none 0 0] := by
    rw [hw0]
    have h := Blk.new (w.alloc (.cells #[.int .u8 k, .slice A1 n1 c1, .slice A2 n2 c2, .int .u8 o, .bool i1, .bool p1, .slice A3 n3 c3, .bool i2, .bool p2, .slice A4 n4 c4] 29)) 34 #[.bool false, .bool false, .slice none 0 0, .slice none 0 0, .slice none 0 0]
    simpa using h
  have X1 : Hid (∀ W, Below w0.heap.size w0 W → ∀ kx u, (#[.bool false, .bool false, .slice none 0 0, .slice none 0 0, .slice none 0 0] : Array Value)[kx]? = some u → W.cell? ⟨(w.heap.size + 1), kx, none⟩ = some u) := fun W hW kx u hk => cell_below hW ((B1.cell kx).trans hk) B1.lt
  have HR : Below w0.heap.size w0 w0 := Below.refl _ _
  have hz0 : w0.heap.size = w.heap.size + 2 := by rw [hw0]; simp
  have KV := hid (pCaughtT t w0 S _ (hs.old HB0.out) hf (ht.old HB0.out) (hto.old HB0.out))
  have B1 := hid B1
  clear hs hf ht hto eT B0
  go_enter Tryz.func10, Tryz.ntmps10
  go_upto_region 1 with fail
  rw [← hw0]
  clear hw0
  have x0_0 := X0.out _ HR 0 _ rfl
  have x0_1 := X0.out _ HR 1 _ rfl
  have x0_2 := X0.out _ HR 2 _ rfl
  have x0_3 := X0.out _ HR 3 _ rfl
  have x0_4 := X0.out _ HR 4 _ rfl
  have x0_5 := X0.out _ HR 5 _ rfl
  have x0_6 := X0.out _ HR 6 _ rfl
  have x0_7 := X0.out _ HR 7 _ rfl
  have x0_8 := X0.out _ HR 8 _ rfl
  have x0_9 := X0.out _ HR 9 _ rfl
  have x1_0 := X1.out _ HR 0 _ rfl
  have x1_1 := X1.out _ HR 1 _ rfl
  have x1_2 := X1.out _ HR 2 _ rfl
  have x1_3 := X1.out _ HR 3 _ rfl
  have x1_4 := X1.out _ HR 4 _ rfl
  go_wp2_with first
    | (go_at_call 27; refine (KV.out).mono ?_; rintro e w1 ⟨u0, u1, u2, u3, u4, rfl, hin, hb1⟩; obtain ⟨s0, s1, D1, m1, j1, D2, m2, j2, D3, m3, j3, eE⟩ := hin.lets; injection eE with e0 eE; injection eE with e1 eE; injection eE with e2 eE; injection eE with e3 eE; injection eE with e4 eE; subst e0 e1 e2 e3 e4; have BY := B1.out.old hb1; have HIN := hid hin; have HB1 := hid hb1; clear hin hb1 eE)
    | (refine wpList_store_row rfl 34 (.tmp 2) (.tmp 6) rfl (w.heap.size + 1) #[.bool s0, .bool s1, .slice D1 m1 j1, .slice D2 m2 j2, .slice D3 m3 j3] rfl rfl 34 #[.bool false, .bool false, .slice none 0 0, .slice none 0 0, .slice none 0 0] BY infoSx5 rfl (one5 _ _ _ _ _ _ _ _ _ _ _) ?_)
  exact bodyPost_ret (results_st_tmp Tryz.results10 _ _ (w.heap.size + 1) 34 _ _ _ rfl rfl (BY.row _) Tryz.underlying34 rfl infoSx5) rfl ⟨_, _, _, _, _, rfl, (HIN.out.keep fun q hq => row_cell (by omega)).more fun b hb => by omega, below_row (next_below HB0.out HB1.out) (by omega) _⟩
set_option maxHeartbeats 8000000 in
theorem pMayT_any (t : TG) (w : World) (S : Nat → Prop) (cs : List Value) (hs : TIn w S t cs) (hf : fineT t = true) (ht : Tab w) (hto : OrdT w) :
    Calls Tryz.prog 12 #[.agg cs.toArray] w fun e w' => e = .returned (.bool (mayT t)) ∧ Below w.heap.size w w' := by
  obtain ⟨k, d, ⟨o, ⟨i1, p1, l1⟩, ⟨i2, p2, l2⟩⟩, ks, A1, n1, c1, A2, n2, c2, A3, n3, c3, A4, n4, c4, eT, rfl⟩ := hs.form_
  dsimp only at hs ⊢
  obtain ⟨w0, hw0⟩ : ∃ w0, w0 = (w.alloc (.cells #[.int .u8 k, .slice A1 n1 c1, .slice A2 n2 c2, .int .u8 o, .bool i1, .bool p1, .slice A3 n3 c3, .bool i2, .bool p2, .slice A4 n4 c4] 29)) := ⟨_, rfl⟩
  have HB0 : Hid (Below w.heap.size w w0) := by
    show Below _ _ _
    rw [hw0]
    exact (Below.refl w.heap.size w).alloc (Nat.le_refl _) _
  have B0 : Blk w0 w.heap.size 29 #[.int .u8 k, .slice A1 n1 c1, .slice A2 n2 c2, .int .u8 o, .bool i1, .bool p1, .slice A3 n3 c3, .bool i2, .bool p2, .slice A4 n4 c4] := by
    rw [hw0]
    exact Blk.new w 29 #[.int .u8 k, .slice A1 n1 c1, .slice A2 n2 c2, .int .u8 o, .bool i1, .bool p1, .slice A3 n3 c3, .bool i2, .bool p2, .slice A4 n4 c4]
  have X0 : Hid (∀ W, Below w0.heap.size w0 W → ∀ kx u, (#[.int .u8 k, .slice A1 n1 c1, .slice A2 n2 c2, .int .u8 o, .bool i1, .bool p1, .slice A3 n3 c3, .bool i2, .bool p2, .slice A4 n4 c4] : Array Value)[kx]? = some u → W.cell? ⟨w.heap.size, kx, none⟩ = some u) := fun W hW kx u hk => cell_below hW ((B0.cell kx).trans hk) B0.lt
  have HR : Below w0.heap.size w0 w0 := Below.refl _ _
  clear B0
  have KV := pPut_any t w0 S _ (hs.old HB0.out) hf (ht.old HB0.out) (hto.old HB0.out)
  have HP : Hid ((putR t).2 = if mayT t = true then 0 else 13) := by show _ = _; unfold putR; split <;> rfl
  obtain ⟨mt, hmt⟩ : ∃ b, b = mayT t := ⟨_, rfl⟩
  rw [← hmt] at HP ⊢
  rw [HP.out] at KV
  clear hs hf ht hto eT hmt HP
  go_enter Tryz.func12, Tryz.ntmps12
  go_upto_region 1 with fail
  rw [← hw0]
  clear hw0
  have x0_0 := X0.out _ HR 0 _ rfl
  have x0_1 := X0.out _ HR 1 _ rfl
  have x0_2 := X0.out _ HR 2 _ rfl
  have x0_3 := X0.out _ HR 3 _ rfl
  have x0_4 := X0.out _ HR 4 _ rfl
  have x0_5 := X0.out _ HR 5 _ rfl
  have x0_6 := X0.out _ HR 6 _ rfl
  have x0_7 := X0.out _ HR 7 _ rfl
  have x0_8 := X0.out _ HR 8 _ rfl
  have x0_9 := X0.out _ HR 9 _ rfl
  cases mt with
  | true =>
    rw [if_pos rfl] at KV
    have KV := hid KV
    go_wp2_with (go_at_call 10; refine (KV.out).mono ?_; rintro e w1 ⟨u0, u1, u2, u3, u4, rfl, hin, hb1⟩; obtain ⟨s0, s1, D1, m1, j1, D2, m2, j2, D3, m3, j3, eE⟩ := hin.lets; injection eE with e0 eE; injection eE with e1 eE; injection eE with e2 eE; injection eE with e3 eE; injection eE with e4 eE; subst e0 e1 e2 e3 e4; have HB1 := hid (next_below HB0.out hb1); clear hin hb1 eE)
    go_ret
    exact ⟨rfl, HB1.out.alloc (HB1.out.size) _⟩
  | false =>
    rw [if_neg (by simp)] at KV
    have KV := hid KV
    go_wp2_with (go_at_call 10; refine (KV.out).mono ?_; rintro e w1 ⟨u0, u1, u2, u3, u4, rfl, hin, hb1⟩; obtain ⟨s0, s1, D1, m1, j1, D2, m2, j2, D3, m3, j3, eE⟩ := hin.lets; injection eE with e0 eE; injection eE with e1 eE; injection eE with e2 eE; injection eE with e3 eE; injection eE with e4 eE; subst e0 e1 e2 e3 e4; have HB1 := hid (next_below HB0.out hb1); clear hin hb1 eE)
    go_ret
    exact ⟨rfl, HB1.out.alloc (HB1.out.size) _⟩
end Go.Proofs.YtinlonpcakkfhaaGreatDoor
end
section
set_option maxRecDepth 100000
namespace Go.Proofs.YtinlonpcakkfhaaGreatDoor
open Go Go.Proofs Go.RowKit Sx _root_.Ord11 Go.Proofs.YtinlonpcakkfhaaGreatDoor.Ord11 _root_.Tag12 Sch
def AtomEnd (w : World) (t : SX) (e : Ending) (w' : World) : Prop := (listB t = true ∧ ThrownT e ∧ Below w.heap.size w w') ∨ (listB t = false ∧ BytesNew w (dataB t) e w')
set_option maxHeartbeats 4000000 in
theorem pReadAtom (t : SX) (w : World) (S : Nat → Prop) (cs : List Value) (hs : SIn w S t cs) :
    Calls Tryz.prog 81 #[.agg cs.toArray] w (AtomEnd w t) := by
  obtain ⟨l, h, hi, da, ks, A1, n1, c1, A2, n2, c2, A3, n3, c3, rfl, rfl⟩ := hs.form_
  have hb0 := below_new w (.cells #[Value.bool l, Value.bool h, Value.slice A1 n1 c1, Value.slice A2 n2 c2, Value.slice A3 n3 c3] 34)
  obtain ⟨_, _, r1, r2, g1, g2, hk, b1, b2, b3, b4, _⟩ := (hs.old hb0).inv
  subst g2
  have KC := hid (bytesClone_any A2 _ c2 da S _ r2 b4)
  have HB := hid hb0
  clear hs r1 r2 g1 hk hb0
  cases l with
  | true =>
    go_enter Tryz.func81, Tryz.ntmps81
    go_wp2_with (go_at_call 51; refine (must_false _).mono ?_; rintro e w2 ⟨he, hw⟩; have he2 : e = .panicked [{ v := .iface 35 (.int .i64 13), recovered := false }] := he; subst he2; subst hw)
    exact ⟨rfl, .inl ⟨rfl, rfl, HB.out⟩⟩
  | false =>
    go_enter Tryz.func81, Tryz.ntmps81
    go_wp2_with first
      | (go_at_call 51; refine (must_true _).mono ?_; rintro e w2 ⟨rfl, hw⟩; subst hw)
      | (go_at_call 79; refine (KC.out).mono ?_; rintro e w3 ⟨A, c, rfl, hc, hr, hb⟩; have HR := hid hr; have HB3 := hid (next_below HB.out hb); clear hr hb)
    go_ret
    exact .inr ⟨rfl, _, _, rfl, hc, HR.out.more fun b hb => by simp at hb; omega, HB3.out⟩
def nameD (k : Nat) : ByteArray := bT (nameW k)
def OrdEnd (w : World) (d : List UInt8) (e : Ending) (w' : World) : Prop := (orderP d = none ∧ ThrownT e ∧ w' = w) ∨ (∃ o, o ≤ 5 ∧ orderP d = some o ∧ e = .returned (.int .u8 o) ∧ w' = w)
theorem orderP_some {d : List UInt8} {k : Nat} (hk : k ≤ 5) (h : d = nameW k) : orderP d = some k := by
  have : k = 0 ∨ k = 1 ∨ k = 2 ∨ k = 3 ∨ k = 4 ∨ k = 5 := by omega
  rcases this with rfl | rfl | rfl | rfl | rfl | rfl <;> (subst h; rfl)
theorem orderP_none {d : List UInt8} (h : ∀ k, k < 6 → d ≠ nameW k) : orderP d = none := by
  unfold orderP
  rw [if_neg (show ¬ d = [] from h 0 (by omega)), if_neg (h 1 (by omega)), if_neg (h 2 (by omega)), if_neg (h 3 (by omega)), if_neg (h 4 (by omega)), if_neg (h 5 (by omega))]
theorem ixN0 : ∀ W, (Instr.index 96 (.agg #[.string (nameD 0), .string (nameD 1), .string (nameD 2), .string (nameD 3), .string (nameD 4), .string (nameD 5)]) (.int .i64 0)).run Tryz.prog W = .ok (.string (nameD 0)) W := by
  intro W
  kernel_rfl
theorem ixN1 : ∀ W, (Instr.index 96 (.agg #[.string (nameD 0), .string (nameD 1), .string (nameD 2), .string (nameD 3), .string (nameD 4), .string (nameD 5)]) (.int .i64 1)).run Tryz.prog W = .ok (.string (nameD 1)) W := by
  intro W
  kernel_rfl
theorem ixN2 : ∀ W, (Instr.index 96 (.agg #[.string (nameD 0), .string (nameD 1), .string (nameD 2), .string (nameD 3), .string (nameD 4), .string (nameD 5)]) (.int .i64 2)).run Tryz.prog W = .ok (.string (nameD 2)) W := by
  intro W
  kernel_rfl
theorem ixN3 : ∀ W, (Instr.index 96 (.agg #[.string (nameD 0), .string (nameD 1), .string (nameD 2), .string (nameD 3), .string (nameD 4), .string (nameD 5)]) (.int .i64 3)).run Tryz.prog W = .ok (.string (nameD 3)) W := by
  intro W
  kernel_rfl
theorem ixN4 : ∀ W, (Instr.index 96 (.agg #[.string (nameD 0), .string (nameD 1), .string (nameD 2), .string (nameD 3), .string (nameD 4), .string (nameD 5)]) (.int .i64 4)).run Tryz.prog W = .ok (.string (nameD 4)) W := by
  intro W
  kernel_rfl
theorem ixN5 : ∀ W, (Instr.index 96 (.agg #[.string (nameD 0), .string (nameD 1), .string (nameD 2), .string (nameD 3), .string (nameD 4), .string (nameD 5)]) (.int .i64 5)).run Tryz.prog W = .ok (.string (nameD 5)) W := by
  intro W
  kernel_rfl
set_option maxHeartbeats 4000000 in
theorem pReadOrder (d : List UInt8) (w : World) (ht : OrdT w) : Calls Tryz.prog 111 #[.string (bT d)] w (OrdEnd w d) := by
  have g0 := ht.cell (o := 0) (by omega)
  have g1 := ht.cell (o := 1) (by omega)
  have g2 := ht.cell (o := 2) (by omega)
  have g3 := ht.cell (o := 3) (by omega)
  have g4 := ht.cell (o := 4) (by omega)
  have g5 := ht.cell (o := 5) (by omega)
  have HN : Hid (∀ k, bT (nameW k) = nameD k) := fun k => rfl
  rw [HN.out] at g0 g1 g2 g3 g4 g5
  have HQ : Hid (∀ k, ((bT d).toList == (nameD k).toList) = decide (d = nameW k)) := fun k => by
    unfold nameD
    rw [bT_list, bT_list]
    by_cases h : d = nameW k
    · rw [decide_eq_true h, beq_iff_eq]; exact h
    · rw [decide_eq_false h, beq_eq_false_iff_ne]; exact h
  generalize bT d = D at HQ ⊢
  clear ht
  have ix0 := ixN0
  have ix1 := ixN1
  have ix2 := ixN2
  have ix3 := ixN3
  have ix4 := ixN4
  have ix5 := ixN5
  go_enter Tryz.func111, Tryz.ntmps111
  go_wp2_with fail
  go_loopw [6] (fun i wr => ∃ k : Nat, k ≤ 6 ∧ i = .int .i64 k ∧ Hid (∀ j, j < k → d ≠ nameW j) ∧ wr = w) (fun i _ => 6 - (intOf i).toNat)
  case atStart => exact ⟨0, by omega, rfl, fun j hj => by omega, rfl⟩
  case round =>
    obtain ⟨k, hk, rfl, hne, rfl⟩ := hrel
    by_cases hlt : k < 6
    · have HL := hid hlt
      have hq := HQ.out k
      by_cases hd : d = nameW k
      · rw [decide_eq_true hd] at hq
        have HO := hid (orderP_some (by omega) hd)
        have H6 : Hid (k ≤ 5) := by show _ ≤ _; omega
        clear hd hne
        have : k = 0 ∨ k = 1 ∨ k = 2 ∨ k = 3 ∨ k = 4 ∨ k = 5 := by omega
        clear hlt hk
        rcases this with h | h | h | h | h | h
        all_goals subst h
        all_goals go_wp2_with fail
        all_goals go_ret
        all_goals exact .inr ⟨_, H6.out, HO.out, rfl, rfl⟩
      · rw [decide_eq_false hd] at hq
        have HNE : Hid (∀ j, j < k + 1 → d ≠ nameW j) := fun j hj => by
          by_cases hjk : j = k
          · subst hjk; exact hd
          · exact hne.out j (by omega)
        clear hd hne
        have : k = 0 ∨ k = 1 ∨ k = 2 ∨ k = 3 ∨ k = 4 ∨ k = 5 := by omega
        clear hlt hk
        rcases this with h | h | h | h | h | h
        · subst h
          go_wp2_with fail
          go_roundw
          case rel => exact ⟨1, by omega, by go_num, HNE.out, by simp⟩
          case measure => simp [intOf]
        · subst h
          go_wp2_with fail
          go_roundw
          case rel => exact ⟨2, by omega, by go_num, HNE.out, by simp⟩
          case measure => simp [intOf]
        · subst h
          go_wp2_with fail
          go_roundw
          case rel => exact ⟨3, by omega, by go_num, HNE.out, by simp⟩
          case measure => simp [intOf]
        · subst h
          go_wp2_with fail
          go_roundw
          case rel => exact ⟨4, by omega, by go_num, HNE.out, by simp⟩
          case measure => simp [intOf]
        · subst h
          go_wp2_with fail
          go_roundw
          case rel => exact ⟨5, by omega, by go_num, HNE.out, by simp⟩
          case measure => simp [intOf]
        · subst h
          go_wp2_with fail
          go_roundw
          case rel => exact ⟨6, by omega, by go_num, HNE.out, by simp⟩
          case measure => simp [intOf]
    · obtain rfl : k = 6 := by omega
      have HO := hid (orderP_none hne.out)
      go_wp2_with fail
      exact ⟨rfl, .inl ⟨HO.out, rfl, rfl⟩⟩
end Go.Proofs.YtinlonpcakkfhaaGreatDoor
end
section
set_option maxRecDepth 100000
namespace Go.Proofs.YtinlonpcakkfhaaGreatDoor
open Go Go.Proofs Go.RowKit Sx _root_.Ord11 Go.Proofs.YtinlonpcakkfhaaGreatDoor.Ord11 _root_.Tag12 Sch
def EndE (w : World) (o : Option (Bd × List SX)) (S : Nat → Prop) (e : Ending) (w' : World) : Prop := (o = none ∧ ThrownT e ∧ Below w.heap.size w w') ∨
  (∃ x q A1 n1 c1 A2 n2 c2, o = some (x, q) ∧ e = .returned (.tuple #[.agg #[.bool x.is, .bool x.op, .slice A1 n1 c1], .slice A2 n2 c2]) ∧ RIn w' (fun b => w.heap.size ≤ b) 1 A1 n1 (Lib.byteCells x.at_) ∧ n1 ≤ c1 ∧ n1 ≤ 140737488355328 ∧ RowS w' S q A2 n2 c2 ∧ Below w.heap.size w w')
theorem quiet_eqS {P : Program} {o : Oper} {ev : Operand → Value} {V : World} (x y : Operand) (D D' : ByteArray) (T K : TypeId) (b : Bool) (hb : (D.toList == D'.toList) = b) (hx : ev x = .string D) (hy : ev y = .string D') (hu : P.underlying T = some .string) (ho : o.op = .binOp .eql T x y K) : (execOp ev o).run P V = .ok (.value (.bool b)) V := by
  rw [← hb]
  unfold execOp
  simp only [ho, hx, hy]
  go_simp
def BtV (B : Nat) (d : List UInt8) (v : Value) (V : World) : Prop := ∃ A c, v = .slice A d.length c ∧ d.length ≤ c ∧ RIn V (fun b => B ≤ b) 1 A d.length (Lib.byteCells d)
theorem BtV.old {B : Nat} {d : List UInt8} {v : Value} {V V' : World} (h : BtV B d v V) (hb : Below V.heap.size V V') : BtV B d v V' := by
  obtain ⟨A, c, e, h1, h2⟩ := h
  exact ⟨A, c, e, h1, h2.old (by omega) hb⟩
theorem BtV.row {B g : Nat} {d : List UInt8} {v : Value} {V : World} (h : BtV B d v V) (c : Array Value) (hg : g < B) : BtV B d v (V.setRow g c) := by
  obtain ⟨A, c', e, h1, h2⟩ := h
  exact ⟨A, c', e, h1, h2.keep fun p hp => row_cell (by have hp : B ≤ p.block := hp; omega)⟩
theorem one3 (a b : Bool) (A : Option Addr) (n c : Nat) : ((#[.bool a, .bool b, .slice A n c] : Array Value).all (·.oneCell')) = true := by kernel_rfl
theorem RowS.keepS {w w' : World} {S : Nat → Prop} {ks : List SX} {A : Option Addr} {n c : Nat} (h : RowS w S ks A n c) (hk : ∀ p : Addr, S p.block → w'.cell? p = w.cell? p) : RowS w' S ks A n c := by
  obtain ⟨xs, h1, h2, h3, h4, h5⟩ := h
  exact ⟨xs, h1, h2, h3, h4.keep hk, fun i t hi => (h5 i t hi).keep hk⟩
set_option maxHeartbeats 8000000 in
theorem pReadEnd (l : List SX) (wd : UInt8) (w : World) (S : Nat → Prop) (A : Option Addr) (n c : Nat) (hs : RowS w S l A n c) (hS : ∀ b, S b → b < w.heap.size) (hd : ∀ x ∈ l, dlen x ≤ 1099511627776) :
    Calls Tryz.prog 112 #[.slice A n c, .string (bT [wd])] w (EndE w (_root_.Tag12.endP l wd) S) := by
  obtain ⟨hl, hc, hm⟩ := hs.len
  obtain ⟨w0, hw0⟩ : ∃ w0, w0 = (w.alloc (.cells #[.bool false, .bool false, .slice none 0 0] 25)) := ⟨_, rfl⟩
  have HB0 : Hid (Below w.heap.size w w0) := by
    show Below _ _ _
    rw [hw0]
    exact (Below.refl w.heap.size w).alloc (Nat.le_refl _) _
  have B0 : Blk w0 w.heap.size 25 #[.bool false, .bool false, .slice none 0 0] := by
    rw [hw0]
    exact Blk.new w 25 #[.bool false, .bool false, .slice none 0 0]
  have X0 : Hid (∀ W, Below w0.heap.size w0 W → ∀ kx u, (#[.bool false, .bool false, .slice none 0 0] : Array Value)[kx]? = some u → W.cell? ⟨w.heap.size, kx, none⟩ = some u) := fun W hW kx u hk => cell_below hW ((B0.cell kx).trans hk) B0.lt
  have HR : Below w0.heap.size w0 w0 := Below.refl _ _
  have hz0 : w0.heap.size = w.heap.size + 1 := by rw [hw0]; simp
  have B0 := hid B0
  have HSS := hid hS
  have HD := hid hd
  have HS0 := hid (hs.old HB0.out)
  have hws : (bT [wd] ++ (⟨#[101]⟩ : ByteArray)) = bT [wd, 101] := by apply ByteArray.ext; simp [bT]
  have HSD : Hid (bT [wd] ++ (⟨#[101]⟩ : ByteArray) = bT [wd, 101]) := hws
  clear hs hS hd hws
  go_enter Tryz.func112, Tryz.ntmps112
  go_upto_region 1 with fail
  rw [← hw0]
  clear hw0
  by_cases h2 : n < 2
  · have hE : Hid (_root_.Tag12.endP l wd = some (zeroB, l)) := by
      show _ = _
      rcases l with _ | ⟨v, _ | ⟨x, q⟩⟩
      · rfl
      · rfl
      · simp at hl; omega
    have h2B : decide ((n : Int) < 2) = true := decide_eq_true (by omega)
    go_wp2_with (refine wpList_store_row rfl 25 (.tmp 4) (.tmp 10) rfl w.heap.size #[.bool false, .bool false, .slice none 0 0] rfl rfl 25 #[.bool false, .bool false, .slice none 0 0] B0.out infoBound rfl (one3 _ _ _ _ _) ?_)
    exact bodyPost_ret (results_st_tmp Tryz.results112 _ _ w.heap.size 25 _ _ _ rfl rfl (B0.out.row _) Tryz.underlying25 rfl infoBound) rfl (.inr ⟨zeroB, l, none, 0, 0, A, n, c, hE.out, rfl, RIn.none_, by omega, by omega, (HS0.out.keepS fun q hq => row_cell (by have := HSS.out _ hq; omega)), below_row HB0.out (Nat.le_refl _) _⟩)
  · have h2B : decide ((n : Int) < 2) = false := decide_eq_false (by omega)
    obtain ⟨ad, v0, v1, v2, v3, v4, v, rfl, hS0, hv, hvm, hin, d0, d1, d2, d3, d4⟩ := HS0.out.at_ (k := 0) (by omega)
    obtain ⟨ad', u0, u1, u2, u3, u4, x, eA, -, hx, hxm, hinx, f0, f1, f2, f3, f4⟩ := HS0.out.at_ (k := 1) (by omega)
    injection eA with eA
    subst eA
    rw [Nat.zero_mul, show ad.add 0 = ad from if_pos rfl] at d0 d1 d2 d3 d4
    obtain ⟨q, rfl⟩ : ∃ q, l = v :: x :: q := by
      rcases l with _ | ⟨v', _ | ⟨x', q⟩⟩
      · simp at hv
      · simp at hx
      · have e1 : v' = v := by simpa using hv
        have e2 : x' = x := by simpa using hx
        subst e1 e2
        exact ⟨q, rfl⟩
    have HEP := hid (endP_two v x q wd)
    have KV := pReadAtom v w0 S _ hin
    have HSA := hid hS0
    have KXG : Hid (∀ w1, Below w0.heap.size w0 w1 → ∀ V, FrG w.heap.size w1 V → Calls Tryz.prog 81 #[.agg #[u0, u1, u2, u3, u4]] V (AtomEnd V x)) := fun w1 h1 V hV => pReadAtom x V S _ (((hinx.old h1).size_.keep fun p hp => hV.cell hp.2 (by have := HSS.out _ hp.1; omega)).more fun _ h => h.1)
    have KX : Hid (∀ W, Below w0.heap.size w0 W → Calls Tryz.prog 81 #[.agg #[u0, u1, u2, u3, u4]] W (AtomEnd W x)) := fun W hW => pReadAtom x W S _ (hinx.old hW)
    have h0P : 0 < n := by omega
    have h1P : 1 < n := by omega
    have h0B : decide (0 < n) = true := decide_eq_true h0P
    have h1B : decide ((1 : Int) < (n : Int)) = true := decide_eq_true (by omega)
    clear hv hx hvm hxm hin hinx hS0 hl
    cases hlv : listB v with
    | true =>
      have HE : Hid (_root_.Tag12.endP (v :: x :: q) wd = none) := by show _ = _; rw [HEP.out, if_pos hlv]
      have KV' : Hid (Calls Tryz.prog 81 #[.agg #[v0, v1, v2, v3, v4]] w0 fun e w' => e = .panicked [{ v := .iface 35 (.int .i64 13), recovered := false }] ∧ Below w0.heap.size w0 w') := by
        refine KV.mono ?_
        rintro e w' (⟨_, h, hb⟩ | ⟨h, _⟩)
        · exact ⟨h, hb⟩
        · rw [hlv] at h; cases h
      clear KV hlv
      go_wp2_with (go_at_call 81; refine (KV'.out).mono ?_; rintro e w1 ⟨rfl, hb1⟩)
      exact ⟨rfl, .inl ⟨HE.out, rfl, next_below HB0.out hb1⟩⟩
    | false =>
      have KV' : Hid (Calls Tryz.prog 81 #[.agg #[v0, v1, v2, v3, v4]] w0 (BytesNew w0 (dataB v))) := by
        refine KV.mono ?_
        rintro e w' (⟨h, _⟩ | ⟨_, h⟩)
        · rw [hlv] at h; cases h
        · exact h
      have HL := hid hlv
      have s2 := bT_list [wd]
      have s3 : (bT [wd] ++ (⟨#[101]⟩ : ByteArray)).toList = [wd, 101] := by rw [HSD.out, bT_list]
      obtain ⟨b1, hb1⟩ : ∃ b, b = decide (dataB v = [wd]) := ⟨_, rfl⟩
      obtain ⟨b2, hb2⟩ : ∃ b, b = decide (dataB v = [wd, 101]) := ⟨_, rfl⟩
      have HEQ : Hid (∀ D : ByteArray, D.toList = dataB v → (D.toList == (bT [wd]).toList) = b1 ∧ (D.toList == (bT [wd] ++ (⟨#[101]⟩ : ByteArray)).toList) = b2) := fun D hD => by
        rw [hD, s2, s3, hb1, hb2, beq_l, beq_l]
        exact ⟨rfl, rfl⟩
      have hsz : (bT [wd]).size = 1 := by rw [bT_size]; rfl
      generalize bT [wd] = W at HEQ hsz ⊢
      have HBB := hid (And.intro hb1 hb2)
      clear KV hlv s2 s3 hb1 hb2
      go_upto_region 4 with (go_at_call 81; refine (KV'.out).mono ?_; rintro e w1 ⟨A1, c1, rfl, hc1, hr1, hb1⟩; have k2 := run_back (hr1.reads (by omega)) (c := c1); have s1 : (⟨(dataB v).toArray⟩ : ByteArray).toList = dataB v := bT_list _; generalize (⟨(dataB v).toArray⟩ : ByteArray) = D at k2 s1)
      obtain ⟨q1, q2⟩ := HEQ.out D s1
      have HD1 := hid s1
      have HB1 := hid hb1
      clear k2 s1 hr1 hb1 d0 d1 d2 d3 d4
      have HB01 := hid (next_below HB0.out HB1.out)
      have B1 := hid (B0.out.old HB1.out)
      have KXG := hid (KXG.out w1 HB1.out)
      have HQ1 := hid q1
      have f0 := (HB1.out.cell (World.block_lt_of_cell? _ _ f0)).trans f0
      have f1 := (HB1.out.cell (World.block_lt_of_cell? _ _ f1)).trans f1
      have f2 := (HB1.out.cell (World.block_lt_of_cell? _ _ f2)).trans f2
      have f3 := (HB1.out.cell (World.block_lt_of_cell? _ _ f3)).trans f3
      have f4 := (HB1.out.cell (World.block_lt_of_cell? _ _ f4)).trans f4
      have HSr : Hid (RowS w1 S (v :: x :: q) (some ad) n c) := HS0.out.old HB1.out
      clear HR X0 HEQ hc1
      by_cases hbb : b1 = false ∧ b2 = false
      · obtain ⟨rfl, rfl⟩ := hbb
        have HE : Hid (_root_.Tag12.endP (v :: x :: q) wd = some (zeroB, v :: x :: q)) := by
          show _ = _
          obtain ⟨p1, p2⟩ := HBB.out
          rw [HEP.out, if_neg (by rw [HL.out]; simp), if_neg]
          rintro (h | h)
          · rw [decide_eq_true h] at p1; cases p1
          · rw [decide_eq_true h] at p2; cases p2
        go_wp2_with (refine wpList_store_row rfl 25 (.tmp 4) (.tmp 26) rfl w.heap.size #[.bool false, .bool false, .slice none 0 0] rfl rfl 25 #[.bool false, .bool false, .slice none 0 0] B1.out infoBound rfl (one3 _ _ _ _ _) ?_)
        exact bodyPost_ret (results_st_tmp Tryz.results112 _ _ w.heap.size 25 _ _ _ rfl rfl (B1.out.row _) Tryz.underlying25 rfl infoBound) rfl (.inr ⟨zeroB, v :: x :: q, none, 0, 0, _, n, c, HE.out, rfl, RIn.none_, by omega, by omega, (HSr.out.keepS fun q hq => row_cell (by have := HSS.out _ hq; omega)), below_row HB01.out (Nat.le_refl _) _⟩)
      · have HE0 : Hid (_root_.Tag12.endP (v :: x :: q) wd = if listB x = true then none else some (⟨true, b1, dataB x⟩, q)) := by
          show _ = _
          obtain ⟨p1, p2⟩ := HBB.out
          rw [HEP.out, if_neg (by rw [HL.out]; simp), if_pos, show (dataB v == [wd]) = b1 by rw [p1, beq_l]]
          by_cases h1 : dataB v = [wd]
          · exact .inl h1
          · by_cases h2 : dataB v = [wd, 101]
            · exact .inr h2
            · exact absurd ⟨by rw [p1, decide_eq_false h1], by rw [p2, decide_eq_false h2]⟩ hbb
        have hpk : ∀ (P : Prop), (b1 = true → P) → (b1 = false → b2 = true → P) → P := fun P h1 h2 => by
          cases b1 with
          | true => exact h1 rfl
          | false =>
            cases b2 with
            | true => exact h2 rfl rfl
            | false => exact absurd ⟨rfl, rfl⟩ hbb
        have HPK := hid hpk
        clear hbb hpk
        have hcase : b1 = true ∨ (b1 = false ∧ b2 = true) := HPK.out _ .inl fun a b => .inr ⟨a, b⟩
        clear HPK
        rcases hcase with hb | ⟨hb, hb2⟩
        · subst hb
          go_upto_region 6 with fail
          try clear q1P
          try clear q2P
          clear q1 q2
          cases hlx : listB x with
          | true =>
            have HE : Hid (_root_.Tag12.endP (v :: x :: q) wd = none) := by show _ = _; rw [HE0.out, if_pos hlx]
            have hdr : Below w1.heap.size w1 w1.drew := (Below.refl _ _).drew
            have KX' : Hid (Calls Tryz.prog 81 #[.agg #[u0, u1, u2, u3, u4]] w1.drew fun e w' => e = .panicked [{ v := .iface 35 (.int .i64 13), recovered := false }] ∧ Below w1.drew.heap.size w1.drew w') := by
              refine (KX.out _ (next_below HB1.out hdr)).mono ?_
              rintro e w' (⟨_, h, hb⟩ | ⟨h, _⟩)
              · exact ⟨h, hb⟩
              · rw [hlx] at h; cases h
            have h1I : (1 : Int) < (n : Int) := by omega
            have h2I : (2 : Int) ≤ (n : Int) := by omega
            have f0' : w1.drew.cell? ⟨ad.block, ad.off + 5, none⟩ = some u0 := f0
            have f1' : w1.drew.cell? ⟨ad.block, ad.off + 6, none⟩ = some u1 := f1
            have f2' : w1.drew.cell? ⟨ad.block, ad.off + 7, none⟩ = some u2 := f2
            have f3' : w1.drew.cell? ⟨ad.block, ad.off + 8, none⟩ = some u3 := f3
            have f4' : w1.drew.cell? ⟨ad.block, ad.off + 9, none⟩ = some u4 := f4
            have HFI : Hid (∀ w', Below w1.drew.heap.size w1.drew w' → EndE w (_root_.Tag12.endP (v :: x :: q) wd) S (.panicked [{ v := .iface 35 (.int .i64 13), recovered := false }]) w') := fun w' hb => .inl ⟨HE.out, rfl, next_below (next_below HB01.out hdr) hb⟩
            clear f0 f1 f2 f3 f4 hlx
            go_region_dies
            all_goals
              (refine KX'.out.mono ?_)
              rintro e w4 ⟨rfl, hb4⟩
              exact ⟨rfl, HFI.out _ hb4⟩
          | false =>
            have HE : Hid (_root_.Tag12.endP (v :: x :: q) wd = some (⟨true, true, dataB x⟩, q)) := by show _ = _; rw [HE0.out, if_neg (by rw [hlx]; simp)]
            have KX2 : Hid (∀ V, FrG w.heap.size w1 V → Calls Tryz.prog 81 #[.agg #[u0, u1, u2, u3, u4]] V fun e w' => ∃ v, e = .returned v ∧ BtV w0.heap.size (dataB x) v w' ∧ Below V.heap.size V w') := fun V hV => by
              refine (KXG.out V hV).mono ?_
              rintro e w' (⟨h, _⟩ | ⟨_, A, c1, rfl, h1, h2, h3⟩)
              · rw [hlx] at h; cases h
              · exact ⟨_, rfl, ⟨A, c1, rfl, h1, h2.more fun b hb => by have := HB1.out.size; have := hV.size; omega⟩, h3⟩
            have KF : Hid (∀ V, FrG w.heap.size w1 V → ∀ j u, (#[u0, u1, u2, u3, u4] : Array Value)[j]? = some u → V.cell? ((ad.add (1 * 5)).add j) = some u) := fun V hV => by
              have hne : (ad.add (1 * 5)).block ≠ w.heap.size := by rw [block_of_add]; have := HSS.out _ HSA.out; omega
              have h := fun p u (hp : p.block ≠ w.heap.size) (h : w1.cell? p = some u) => (hV.cell (World.block_lt_of_cell? _ _ h) hp).trans h
              exact at_five (h _ _ hne f0) (h _ _ hne f1) (h _ _ hne f2) (h _ _ hne f3) (h _ _ hne f4)
            obtain ⟨A9, hA9⟩ : ∃ A9, (if c = 2 then some ad else (some ad : Option Addr).map (·.add (2 * 5))) = A9 := ⟨_, rfl⟩
            have HA9 := hid hA9
            have HSQ : Hid (RowS w1 S q A9 (n - 2) (c - 2)) := by
              have h := HSr.out.drop (k := 2) (by omega)
              rw [← HA9.out]
              exact h
            have HDX : Hid ((dataB x).length ≤ 140737488355328) := by
              have h := HD.out x (by simp)
              have e : dlen x = (dataB x).length := by obtain ⟨_, _, _, _, _⟩ := x; rfl
              show _ ≤ _
              omega
            clear f0 f1 f2 f3 f4 hlx KX hA9 h1B h0B h0P h2B HEP
            try simp only [Act.put]
            refine wp_S w.heap.size 25 #[.bool false, .bool false, .slice none 0 0] 10 7 [some 28, some 29, some 30, some 31, some 32, some 33, some 34, some 35, some 36, some 37, none] [some (Rk3.val _ (.string D)), some (Rk3.val _ (.string W)), some (Rk3.val _ (.bool true)), some (Rk3.val _ (.slice (some ad) n c)), some (Rk3.val _ (.pointer (some (ad.add (1 * 5))))), some (Rk3.val _ (.agg #[u0, u1, u2, u3, u4])), some (⟨fun v V => BtV w0.heap.size (dataB x) v V, fun _ _ _ h hb => h.old hb, fun _ _ c h => h.row c (by omega)⟩), some (⟨fun v V => ∃ A n1 c1, v = .agg #[.bool true, .bool true, .slice A n1 c1] ∧ BtV w0.heap.size (dataB x) (.slice A n1 c1) V, fun _ _ _ h hb => by obtain ⟨A, n1, c1, e, hh⟩ := h; exact ⟨A, n1, c1, e, hh.old hb⟩, fun _ _ c h => by obtain ⟨A, n1, c1, e, hh⟩ := h; exact ⟨A, n1, c1, e, hh.row c (by omega)⟩⟩), some (Rk3.val _ (.slice (some ad) n c)), some (Rk3.val _ (.slice A9 (n - 2) (c - 2))), none] rfl (by kernel_rfl) (by kernel_rfl) (by kernel_rfl) (by kernel_rfl) B1.out ?hsrtrue ?hgrtrue _ (by rfl) rfl ?hfrtrue
            case hsrtrue => exact ⟨⟨4, 35, by kernel_rfl, by kernel_rfl, rfl, by kernel_rfl⟩, fun v V h => by obtain ⟨A, n1, c1, e, _⟩ := h; exact ⟨_, e, infoBound, rfl, one3 _ _ _ _ _⟩⟩
            case hgrtrue =>
              refine g3_val rfl (by kernel_rfl) (fun a V H K Q hK => op_quiet (quiet_move (.tmp 6) (H.old 6 (by kernel_rfl) (by kernel_rfl)) (.inl (by kernel_rfl))) hK) ?_
              refine g3_val rfl (by kernel_rfl) (fun a V H K Q hK => op_quiet (quiet_move (.tmp 1) (H.old 1 (by kernel_rfl) (by kernel_rfl)) (.inl (by kernel_rfl))) hK) ?_
              refine g3_val rfl (by kernel_rfl) (fun a V H K Q hK => op_quiet (quiet_eqS (.tmp 28) (.tmp 29) D W 9 9 true HQ1.out (H.rel 0 28 (by kernel_rfl) (by kernel_rfl) rfl) (H.rel 1 29 (by kernel_rfl) (by kernel_rfl) rfl) Tryz.underlying9 (by kernel_rfl)) hK) ?_
              refine g3_val rfl (by kernel_rfl) (fun a V H K Q hK => op_quiet (quiet_move (.tmp 0) (H.old 0 (by kernel_rfl) (by kernel_rfl)) (.inl (by kernel_rfl))) hK) ?_
              refine g3_val rfl (by kernel_rfl) (fun a V H K Q hK => op_quiet (quiet_indexN (.tmp 31) (.const (.int .i64 1)) ad n c 1 5 32 34 (H.rel 3 31 (by kernel_rfl) (by kernel_rfl) rfl) (show a.eval (.const (.int .i64 1)) = .int .i64 ((1 : Nat) : Int) from rfl) h1P Tryz.underlying32 (by kernel_rfl) (by kernel_rfl)) hK) ?_
              refine g3_val rfl (by kernel_rfl) (fun a V H K Q hK => op_quiet (quiet_aggA 34 (.tmp 32) (ad.add (1 * 5)) (H.rel 4 32 (by kernel_rfl) (by kernel_rfl) rfl) #[u0, u1, u2, u3, u4] (KF.out _ H.frame) Tryz.underlying34 rfl (by kernel_rfl) (by kernel_rfl)) hK) ?_
              refine g3_is rfl (by kernel_rfl) (fun a V H K Q hK => op_callR #[.tmp 33] #[.agg #[u0, u1, u2, u3, u4]] (by kernel_rfl) (by kernel_rfl) (by kernel_rfl) (map1 (H.rel 5 33 (by kernel_rfl) (by kernel_rfl) rfl)) (KX2.out _ H.frame) (by kernel_rfl) hK) ?_
              refine g3_is rfl (by kernel_rfl) (fun a V H K Q hK => by
                  obtain ⟨A, c1, e34, hh⟩ := (show BtV w0.heap.size (dataB x) (a.eval (.tmp 34)) V from (H.rel 6 34 (by kernel_rfl) (by kernel_rfl) rfl))
                  refine op_quiet (quiet_bld 25 _ _ (bld3 (a := 0) (b := 1) (c := 2) (x := .const (.bool true)) rfl (H.rel 2 30 (by kernel_rfl) (by kernel_rfl) rfl) e34) #[.bool true, .bool true, .slice A (dataB x).length c1] (by kernel_rfl) (by kernel_rfl)) (fun V' hb => hK _ V' hb ?_)
                  exact ⟨A, _, c1, rfl, BtV.old ⟨A, c1, rfl, hh⟩ hb⟩) ?_
              refine g3_val rfl (by kernel_rfl) (fun a V H K Q hK => op_quiet (quiet_move (.tmp 0) (H.old 0 (by kernel_rfl) (by kernel_rfl)) (.inl (by kernel_rfl))) hK) ?_
              refine g3_val rfl (by kernel_rfl) (fun a V H K Q hK => op_quiet (quiet_sliceL (.tmp 36) (.const (.int .i64 2)) (some ad) A9 n c 2 5 32 34 (H.rel 8 36 (by kernel_rfl) (by kernel_rfl) rfl) (show a.eval (.const (.int .i64 2)) = .int .i64 ((2 : Nat) : Int) from rfl) h1P Tryz.underlying32 (by kernel_rfl) HA9.out (by kernel_rfl)) hK) ?_
              refine g3_st rfl ?_
              exact g3_nil
            case hfrtrue =>
              intro xx V hF
              have ev0 : xx 0 = .string D := hF.rel 0 _ rfl
              have ev1 : xx 1 = .string W := hF.rel 1 _ rfl
              have ev2 : xx 2 = .bool true := hF.rel 2 _ rfl
              have ev3 : xx 3 = .slice (some ad) n c := hF.rel 3 _ rfl
              have ev4 : xx 4 = .pointer (some (ad.add (1 * 5))) := hF.rel 4 _ rfl
              have ev5 : xx 5 = .agg #[u0, u1, u2, u3, u4] := hF.rel 5 _ rfl
              have rv6 := hF.rel 6 _ rfl
              generalize hy6 : xx 6 = y6 at rv6 ⊢
              have rv7 := hF.rel 7 _ rfl
              generalize hy7 : xx 7 = y7 at rv7 ⊢
              have ev8 : xx 8 = .slice (some ad) n c := hF.rel 8 _ rfl
              have ev9 : xx 9 = .slice A9 (n - 2) (c - 2) := hF.rel 9 _ rfl
              have hbox := hF.box
              have hfr := hF.frame
              clear hF
              simp only [Sch.finO, zA, zB, zC, ev0, ev1, ev2, ev3, ev4, ev5, hy6, hy7, ev8, ev9]
              obtain ⟨cc, ec, hbx⟩ := hbox
              obtain ⟨A8, n8, c8, e7, hh⟩ := rv7
              subst e7
              rw [hy7] at ec
              injection ec with ec
              subst ec
              obtain ⟨A8', c8', e8, hc8, hr8⟩ := hh
              injection e8 with e81 e82 e83
              subst e81 e82 e83
              have HRr := hid hr8
              have HFR := hid hfr
              have hb0F := HB01.out.trans (hfr.below (Nat.le_refl w.heap.size) B1.out.lt)
              have HB0F := hid hb0F
              clear rv6 hr8 hfr ev0 ev1 ev2 ev3 ev4 ev5 hy6 hy7 ev8 ev9
              go_wp2_with fail
              exact bodyPost_ret (results_st_tmp Tryz.results112 _ _ w.heap.size 25 _ _ _ rfl rfl hbx Tryz.underlying25 rfl infoBound) rfl (.inr ⟨⟨true, true, dataB x⟩, q, A8, _, c8, A9, n - 2, c - 2, HE.out, rfl, HRr.out.more fun b hb => by omega, hc8, HDX.out, (HSQ.out.keepS fun q hq => HFR.out.cell (by have := HSS.out _ hq; have := B1.out.lt; omega) (by have := HSS.out _ hq; omega)), HB0F.out⟩)
        · subst hb hb2
          go_upto_region 6 with fail
          try clear q1P
          try clear q2P
          clear q1 q2
          cases hlx : listB x with
          | true =>
            have HE : Hid (_root_.Tag12.endP (v :: x :: q) wd = none) := by show _ = _; rw [HE0.out, if_pos hlx]
            have hdr : Below w1.heap.size w1 w1.drew := (Below.refl _ _).drew
            have KX' : Hid (Calls Tryz.prog 81 #[.agg #[u0, u1, u2, u3, u4]] w1.drew fun e w' => e = .panicked [{ v := .iface 35 (.int .i64 13), recovered := false }] ∧ Below w1.drew.heap.size w1.drew w') := by
              refine (KX.out _ (next_below HB1.out hdr)).mono ?_
              rintro e w' (⟨_, h, hb⟩ | ⟨h, _⟩)
              · exact ⟨h, hb⟩
              · rw [hlx] at h; cases h
            have h1I : (1 : Int) < (n : Int) := by omega
            have h2I : (2 : Int) ≤ (n : Int) := by omega
            have f0' : w1.drew.cell? ⟨ad.block, ad.off + 5, none⟩ = some u0 := f0
            have f1' : w1.drew.cell? ⟨ad.block, ad.off + 6, none⟩ = some u1 := f1
            have f2' : w1.drew.cell? ⟨ad.block, ad.off + 7, none⟩ = some u2 := f2
            have f3' : w1.drew.cell? ⟨ad.block, ad.off + 8, none⟩ = some u3 := f3
            have f4' : w1.drew.cell? ⟨ad.block, ad.off + 9, none⟩ = some u4 := f4
            have HFI : Hid (∀ w', Below w1.drew.heap.size w1.drew w' → EndE w (_root_.Tag12.endP (v :: x :: q) wd) S (.panicked [{ v := .iface 35 (.int .i64 13), recovered := false }]) w') := fun w' hb => .inl ⟨HE.out, rfl, next_below (next_below HB01.out hdr) hb⟩
            clear f0 f1 f2 f3 f4 hlx
            go_region_dies
            all_goals
              (refine KX'.out.mono ?_)
              rintro e w4 ⟨rfl, hb4⟩
              exact ⟨rfl, HFI.out _ hb4⟩
          | false =>
            have HE : Hid (_root_.Tag12.endP (v :: x :: q) wd = some (⟨true, false, dataB x⟩, q)) := by show _ = _; rw [HE0.out, if_neg (by rw [hlx]; simp)]
            have KX2 : Hid (∀ V, FrG w.heap.size w1 V → Calls Tryz.prog 81 #[.agg #[u0, u1, u2, u3, u4]] V fun e w' => ∃ v, e = .returned v ∧ BtV w0.heap.size (dataB x) v w' ∧ Below V.heap.size V w') := fun V hV => by
              refine (KXG.out V hV).mono ?_
              rintro e w' (⟨h, _⟩ | ⟨_, A, c1, rfl, h1, h2, h3⟩)
              · rw [hlx] at h; cases h
              · exact ⟨_, rfl, ⟨A, c1, rfl, h1, h2.more fun b hb => by have := HB1.out.size; have := hV.size; omega⟩, h3⟩
            have KF : Hid (∀ V, FrG w.heap.size w1 V → ∀ j u, (#[u0, u1, u2, u3, u4] : Array Value)[j]? = some u → V.cell? ((ad.add (1 * 5)).add j) = some u) := fun V hV => by
              have hne : (ad.add (1 * 5)).block ≠ w.heap.size := by rw [block_of_add]; have := HSS.out _ HSA.out; omega
              have h := fun p u (hp : p.block ≠ w.heap.size) (h : w1.cell? p = some u) => (hV.cell (World.block_lt_of_cell? _ _ h) hp).trans h
              exact at_five (h _ _ hne f0) (h _ _ hne f1) (h _ _ hne f2) (h _ _ hne f3) (h _ _ hne f4)
            obtain ⟨A9, hA9⟩ : ∃ A9, (if c = 2 then some ad else (some ad : Option Addr).map (·.add (2 * 5))) = A9 := ⟨_, rfl⟩
            have HA9 := hid hA9
            have HSQ : Hid (RowS w1 S q A9 (n - 2) (c - 2)) := by
              have h := HSr.out.drop (k := 2) (by omega)
              rw [← HA9.out]
              exact h
            have HDX : Hid ((dataB x).length ≤ 140737488355328) := by
              have h := HD.out x (by simp)
              have e : dlen x = (dataB x).length := by obtain ⟨_, _, _, _, _⟩ := x; rfl
              show _ ≤ _
              omega
            clear f0 f1 f2 f3 f4 hlx KX hA9 h1B h0B h0P h2B HEP
            try simp only [Act.put]
            refine wp_S w.heap.size 25 #[.bool false, .bool false, .slice none 0 0] 10 7 [some 28, some 29, some 30, some 31, some 32, some 33, some 34, some 35, some 36, some 37, none] [some (Rk3.val _ (.string D)), some (Rk3.val _ (.string W)), some (Rk3.val _ (.bool false)), some (Rk3.val _ (.slice (some ad) n c)), some (Rk3.val _ (.pointer (some (ad.add (1 * 5))))), some (Rk3.val _ (.agg #[u0, u1, u2, u3, u4])), some (⟨fun v V => BtV w0.heap.size (dataB x) v V, fun _ _ _ h hb => h.old hb, fun _ _ c h => h.row c (by omega)⟩), some (⟨fun v V => ∃ A n1 c1, v = .agg #[.bool true, .bool false, .slice A n1 c1] ∧ BtV w0.heap.size (dataB x) (.slice A n1 c1) V, fun _ _ _ h hb => by obtain ⟨A, n1, c1, e, hh⟩ := h; exact ⟨A, n1, c1, e, hh.old hb⟩, fun _ _ c h => by obtain ⟨A, n1, c1, e, hh⟩ := h; exact ⟨A, n1, c1, e, hh.row c (by omega)⟩⟩), some (Rk3.val _ (.slice (some ad) n c)), some (Rk3.val _ (.slice A9 (n - 2) (c - 2))), none] rfl (by kernel_rfl) (by kernel_rfl) (by kernel_rfl) (by kernel_rfl) B1.out ?hsrfalse ?hgrfalse _ (by rfl) rfl ?hfrfalse
            case hsrfalse => exact ⟨⟨4, 35, by kernel_rfl, by kernel_rfl, rfl, by kernel_rfl⟩, fun v V h => by obtain ⟨A, n1, c1, e, _⟩ := h; exact ⟨_, e, infoBound, rfl, one3 _ _ _ _ _⟩⟩
            case hgrfalse =>
              refine g3_val rfl (by kernel_rfl) (fun a V H K Q hK => op_quiet (quiet_move (.tmp 6) (H.old 6 (by kernel_rfl) (by kernel_rfl)) (.inl (by kernel_rfl))) hK) ?_
              refine g3_val rfl (by kernel_rfl) (fun a V H K Q hK => op_quiet (quiet_move (.tmp 1) (H.old 1 (by kernel_rfl) (by kernel_rfl)) (.inl (by kernel_rfl))) hK) ?_
              refine g3_val rfl (by kernel_rfl) (fun a V H K Q hK => op_quiet (quiet_eqS (.tmp 28) (.tmp 29) D W 9 9 false HQ1.out (H.rel 0 28 (by kernel_rfl) (by kernel_rfl) rfl) (H.rel 1 29 (by kernel_rfl) (by kernel_rfl) rfl) Tryz.underlying9 (by kernel_rfl)) hK) ?_
              refine g3_val rfl (by kernel_rfl) (fun a V H K Q hK => op_quiet (quiet_move (.tmp 0) (H.old 0 (by kernel_rfl) (by kernel_rfl)) (.inl (by kernel_rfl))) hK) ?_
              refine g3_val rfl (by kernel_rfl) (fun a V H K Q hK => op_quiet (quiet_indexN (.tmp 31) (.const (.int .i64 1)) ad n c 1 5 32 34 (H.rel 3 31 (by kernel_rfl) (by kernel_rfl) rfl) (show a.eval (.const (.int .i64 1)) = .int .i64 ((1 : Nat) : Int) from rfl) h1P Tryz.underlying32 (by kernel_rfl) (by kernel_rfl)) hK) ?_
              refine g3_val rfl (by kernel_rfl) (fun a V H K Q hK => op_quiet (quiet_aggA 34 (.tmp 32) (ad.add (1 * 5)) (H.rel 4 32 (by kernel_rfl) (by kernel_rfl) rfl) #[u0, u1, u2, u3, u4] (KF.out _ H.frame) Tryz.underlying34 rfl (by kernel_rfl) (by kernel_rfl)) hK) ?_
              refine g3_is rfl (by kernel_rfl) (fun a V H K Q hK => op_callR #[.tmp 33] #[.agg #[u0, u1, u2, u3, u4]] (by kernel_rfl) (by kernel_rfl) (by kernel_rfl) (map1 (H.rel 5 33 (by kernel_rfl) (by kernel_rfl) rfl)) (KX2.out _ H.frame) (by kernel_rfl) hK) ?_
              refine g3_is rfl (by kernel_rfl) (fun a V H K Q hK => by
                  obtain ⟨A, c1, e34, hh⟩ := (show BtV w0.heap.size (dataB x) (a.eval (.tmp 34)) V from (H.rel 6 34 (by kernel_rfl) (by kernel_rfl) rfl))
                  refine op_quiet (quiet_bld 25 _ _ (bld3 (a := 0) (b := 1) (c := 2) (x := .const (.bool true)) rfl (H.rel 2 30 (by kernel_rfl) (by kernel_rfl) rfl) e34) #[.bool true, .bool false, .slice A (dataB x).length c1] (by kernel_rfl) (by kernel_rfl)) (fun V' hb => hK _ V' hb ?_)
                  exact ⟨A, _, c1, rfl, BtV.old ⟨A, c1, rfl, hh⟩ hb⟩) ?_
              refine g3_val rfl (by kernel_rfl) (fun a V H K Q hK => op_quiet (quiet_move (.tmp 0) (H.old 0 (by kernel_rfl) (by kernel_rfl)) (.inl (by kernel_rfl))) hK) ?_
              refine g3_val rfl (by kernel_rfl) (fun a V H K Q hK => op_quiet (quiet_sliceL (.tmp 36) (.const (.int .i64 2)) (some ad) A9 n c 2 5 32 34 (H.rel 8 36 (by kernel_rfl) (by kernel_rfl) rfl) (show a.eval (.const (.int .i64 2)) = .int .i64 ((2 : Nat) : Int) from rfl) h1P Tryz.underlying32 (by kernel_rfl) HA9.out (by kernel_rfl)) hK) ?_
              refine g3_st rfl ?_
              exact g3_nil
            case hfrfalse =>
              intro xx V hF
              have ev0 : xx 0 = .string D := hF.rel 0 _ rfl
              have ev1 : xx 1 = .string W := hF.rel 1 _ rfl
              have ev2 : xx 2 = .bool false := hF.rel 2 _ rfl
              have ev3 : xx 3 = .slice (some ad) n c := hF.rel 3 _ rfl
              have ev4 : xx 4 = .pointer (some (ad.add (1 * 5))) := hF.rel 4 _ rfl
              have ev5 : xx 5 = .agg #[u0, u1, u2, u3, u4] := hF.rel 5 _ rfl
              have rv6 := hF.rel 6 _ rfl
              generalize hy6 : xx 6 = y6 at rv6 ⊢
              have rv7 := hF.rel 7 _ rfl
              generalize hy7 : xx 7 = y7 at rv7 ⊢
              have ev8 : xx 8 = .slice (some ad) n c := hF.rel 8 _ rfl
              have ev9 : xx 9 = .slice A9 (n - 2) (c - 2) := hF.rel 9 _ rfl
              have hbox := hF.box
              have hfr := hF.frame
              clear hF
              simp only [Sch.finO, zA, zB, zC, ev0, ev1, ev2, ev3, ev4, ev5, hy6, hy7, ev8, ev9]
              obtain ⟨cc, ec, hbx⟩ := hbox
              obtain ⟨A8, n8, c8, e7, hh⟩ := rv7
              subst e7
              rw [hy7] at ec
              injection ec with ec
              subst ec
              obtain ⟨A8', c8', e8, hc8, hr8⟩ := hh
              injection e8 with e81 e82 e83
              subst e81 e82 e83
              have HRr := hid hr8
              have HFR := hid hfr
              have hb0F := HB01.out.trans (hfr.below (Nat.le_refl w.heap.size) B1.out.lt)
              have HB0F := hid hb0F
              clear rv6 hr8 hfr ev0 ev1 ev2 ev3 ev4 ev5 hy6 hy7 ev8 ev9
              go_wp2_with fail
              exact bodyPost_ret (results_st_tmp Tryz.results112 _ _ w.heap.size 25 _ _ _ rfl rfl hbx Tryz.underlying25 rfl infoBound) rfl (.inr ⟨⟨true, false, dataB x⟩, q, A8, _, c8, A9, n - 2, c - 2, HE.out, rfl, HRr.out.more fun b hb => by omega, hc8, HDX.out, (HSQ.out.keepS fun q hq => HFR.out.cell (by have := HSS.out _ hq; have := B1.out.lt; omega) (by have := HSS.out _ hq; omega)), HB0F.out⟩)
end Go.Proofs.YtinlonpcakkfhaaGreatDoor
end
section
set_option maxRecDepth 100000
namespace Go.Proofs.YtinlonpcakkfhaaGreatDoor
open Go Go.Proofs Go.RowKit Sx _root_.Ord11 Go.Proofs.YtinlonpcakkfhaaGreatDoor.Ord11 _root_.Tag12 Sch
theorem AtomEnd.list_ {w w' : World} {t : SX} {e : Ending} (h : AtomEnd w t e w') (hl : listB t = true) : e = .panicked [{ v := .iface 35 (.int .i64 13), recovered := false }] ∧ Below w.heap.size w w' := by
  rcases h with ⟨_, h, hb⟩ | ⟨h, _⟩
  · exact ⟨h, hb⟩
  · rw [hl] at h; cases h
theorem AtomEnd.atom_ {w w' : World} {t : SX} {e : Ending} (h : AtomEnd w t e w') (hl : listB t = false) : BytesNew w (dataB t) e w' := by
  rcases h with ⟨h, _⟩ | ⟨_, h⟩
  · rw [hl] at h; cases h
  · exact h
theorem OrdEnd.none_ {w w' : World} {d : List UInt8} {e : Ending} (h : OrdEnd w d e w') (hl : orderP d = none) : e = .panicked [{ v := .iface 35 (.int .i64 13), recovered := false }] ∧ w' = w := by
  rcases h with ⟨_, h, hb⟩ | ⟨o, _, h, _⟩
  · exact ⟨h, hb⟩
  · rw [hl] at h; cases h
theorem OrdEnd.some_ {w w' : World} {d : List UInt8} {e : Ending} {o : Nat} (h : OrdEnd w d e w') (hl : orderP d = some o) : e = .returned (.int .u8 o) ∧ w' = w ∧ o ≤ 5 := by
  rcases h with ⟨h, _⟩ | ⟨o', h5, h, he, hw⟩
  · rw [hl] at h; cases h
  · rw [hl] at h; injection h with h; subst h; exact ⟨he, hw, h5⟩
theorem EndE.none_ {w w' : World} {S : Nat → Prop} {o : Option (Bd × List SX)} {e : Ending} (h : EndE w o S e w') (hl : o = none) : e = .panicked [{ v := .iface 35 (.int .i64 13), recovered := false }] ∧ Below w.heap.size w w' := by
  rcases h with ⟨_, h, hb⟩ | ⟨x, q, _, _, _, _, _, _, h, _⟩
  · exact ⟨h, hb⟩
  · rw [hl] at h; cases h
theorem EndE.some_ {w w' : World} {S : Nat → Prop} {o : Option (Bd × List SX)} {e : Ending} {x : Bd} {q : List SX} (h : EndE w o S e w') (hl : o = some (x, q)) : ∃ A1 n1 c1 A2 n2 c2, e = .returned (.tuple #[.agg #[.bool x.is, .bool x.op, .slice A1 n1 c1], .slice A2 n2 c2]) ∧ RIn w' (fun b => w.heap.size ≤ b) 1 A1 n1 (Lib.byteCells x.at_) ∧ n1 ≤ c1 ∧ n1 ≤ 140737488355328 ∧ RowS w' S q A2 n2 c2 ∧ Below w.heap.size w w' := by
  rcases h with ⟨h, _⟩ | ⟨x', q', A1, n1, c1, A2, n2, c2, h, he⟩
  · rw [hl] at h; cases h
  · rw [hl] at h; injection h with h; injection h with e1 e2; subst e1 e2; exact ⟨A1, n1, c1, A2, n2, c2, he⟩
theorem endP_fine {l q : List SX} {wd : UInt8} {x : Bd} {N : Nat} (h : _root_.Tag12.endP l wd = some (x, q)) (hl : ∀ v ∈ l, dlen v ≤ N) : x.at_.length ≤ N ∧ ∀ v ∈ q, dlen v ≤ N := by
  unfold _root_.Tag12.endP at h
  split at h
  · split at h
    · cases h
    · split at h
      · split at h
        · cases h
        · injection h with h
          injection h with h1 h2
          subst h1 h2
          refine ⟨?_, fun v hv => hl v (by simp [hv])⟩
          rename_i y _ _ _ _
          have := hl y (by simp)
          obtain ⟨_, _, _, _, _⟩ := y
          exact this
      · injection h with h
        injection h with h1 h2
        subst h1 h2
        exact ⟨Nat.zero_le _, hl⟩
  · injection h with h
    injection h with h1 h2
    subst h1 h2
    exact ⟨Nat.zero_le _, hl⟩
def RangE (w : World) (o : Option Rg) (e : Ending) (w' : World) : Prop := (o = none ∧ ThrownT e ∧ Below w.heap.size w w') ∨
  (∃ r A1 n1 c1 A2 n2 c2, o = some r ∧ e = .returned (.agg #[.int .u8 r.o, .bool r.lo.is, .bool r.lo.op, .slice A1 n1 c1, .bool r.hi.is, .bool r.hi.op, .slice A2 n2 c2]) ∧ r.o < 256 ∧ RIn w' (fun b => w.heap.size ≤ b) 1 A1 n1 (Lib.byteCells r.lo.at_) ∧ n1 ≤ c1 ∧ n1 ≤ 140737488355328 ∧ RIn w' (fun b => w.heap.size ≤ b) 1 A2 n2 (Lib.byteCells r.hi.at_) ∧ n2 ≤ c2 ∧ n2 ≤ 140737488355328 ∧ Below w.heap.size w w')
theorem infoRg7 : (Tryz.prog.info? 27).map (·.size) = some 7 := by kernel_rfl
theorem one7 (o : Nat) (a b c d : Bool) (A1 : Option Addr) (n1 c1 : Nat) (A2 : Option Addr) (n2 c2 : Nat) : ((#[.int .u8 o, .bool a, .bool b, .slice A1 n1 c1, .bool c, .bool d, .slice A2 n2 c2] : Array Value).all (·.oneCell')) = true := by kernel_rfl
set_option maxHeartbeats 8000000 in
theorem pReadRange (l : List SX) (w : World) (S : Nat → Prop) (A : Option Addr) (n c : Nat) (hs : RowS w S l A n c) (hS : ∀ b, S b → b < w.heap.size) (hd : ∀ x ∈ l, dlen x ≤ 1099511627776) (ht : OrdT w) :
    Calls Tryz.prog 95 #[.slice A n c] w (RangE w (rangP l)) := by
  obtain ⟨hl, hc, hm⟩ := hs.len
  obtain ⟨w0, hw0⟩ : ∃ w0, w0 = (w.alloc (.cells #[.int .u8 0, .bool false, .bool false, .slice none 0 0, .bool false, .bool false, .slice none 0 0] 27)) := ⟨_, rfl⟩
  have HB0 : Hid (Below w.heap.size w w0) := by
    show Below _ _ _
    rw [hw0]
    exact (Below.refl w.heap.size w).alloc (Nat.le_refl _) _
  have B0 : Blk w0 w.heap.size 27 #[.int .u8 0, .bool false, .bool false, .slice none 0 0, .bool false, .bool false, .slice none 0 0] := by
    rw [hw0]
    exact Blk.new w 27 #[.int .u8 0, .bool false, .bool false, .slice none 0 0, .bool false, .bool false, .slice none 0 0]
  have X0 : Hid (∀ W, Below w0.heap.size w0 W → ∀ kx u, (#[.int .u8 0, .bool false, .bool false, .slice none 0 0, .bool false, .bool false, .slice none 0 0] : Array Value)[kx]? = some u → W.cell? ⟨w.heap.size, kx, none⟩ = some u) := fun W hW kx u hk => cell_below hW ((B0.cell kx).trans hk) B0.lt
  have HR : Below w0.heap.size w0 w0 := Below.refl _ _
  have hz0 : w0.heap.size = w.heap.size + 1 := by rw [hw0]; simp
  have B0 := hid B0
  have HSS := hid hS
  have HD := hid hd
  have HT := hid (ht.old HB0.out)
  have HS0 := hid (hs.old HB0.out)
  clear hs hS hd ht
  go_enter Tryz.func95, Tryz.ntmps95
  go_upto_region 1 with fail
  rw [← hw0]
  clear hw0
  by_cases h0 : n = 0
  · have hE : Hid (rangP l = none) := by
      show _ = _
      rw [List.eq_nil_of_length_eq_zero (by omega : l.length = 0)]; rfl
    subst h0
    go_wp2_with (go_at_call 51; refine (must_false _).mono ?_; rintro e w2 ⟨he, hw⟩; have he2 : e = .panicked [{ v := .iface 35 (.int .i64 13), recovered := false }] := he; subst he2; subst w2)
    exact ⟨rfl, .inl ⟨hE.out, rfl, HB0.out⟩⟩
  obtain ⟨ad, v0, v1, v2, v3, v4, v, rfl, hS0, hv, hvm, hin, d0, d1, d2, d3, d4⟩ := HS0.out.at_ (k := 0) (by omega)
  rw [Nat.zero_mul, show ad.add 0 = ad from if_pos rfl] at d0 d1 d2 d3 d4
  obtain ⟨r, rfl⟩ : ∃ r, l = v :: r := by
    rcases l with _ | ⟨v', r⟩
    · simp at hv
    · have e1 : v' = v := by simpa using hv
      subst e1
      exact ⟨r, rfl⟩
  have h0P : 0 < n := by omega
  have h0B : decide (0 < n) = true := decide_eq_true h0P
  have h0I : decide ((0 : Int) < (n : Int)) = true := decide_eq_true (by omega)
  have HEP := hid (rangP_cons v r)
  have KV := pReadAtom v w0 S _ hin
  clear hv hvm hin hS0 hl h0
  go_upto_region 2 with (go_at_call 51; refine (must_true _).mono ?_; rintro e w2 ⟨rfl, hw⟩; subst w2)
  cases hlv : listB v with
  | true =>
    have HE : Hid (rangP (v :: r) = none) := by show _ = _; rw [HEP.out, if_pos hlv]
    have KV' := hid (KV.mono fun e w' h => h.list_ hlv)
    clear KV hlv
    go_wp2_with (go_at_call 81; refine (KV'.out).mono ?_; rintro e w1 ⟨rfl, hb1⟩)
    exact ⟨rfl, .inl ⟨HE.out, rfl, next_below HB0.out hb1⟩⟩
  | false =>
    have HE0 : Hid (rangP (v :: r) = bind1 (orderP (dataB v)) fun o => bind2 (_root_.Tag12.endP r 103) fun lo q => bind2 (_root_.Tag12.endP q 108) fun hi q2 => if q2 = [] ∧ mayR ordC ⟨o, lo, hi⟩ = true then some ⟨o, lo, hi⟩ else none) := by show _ = _; rw [HEP.out, if_neg (by rw [hlv]; simp)]
    have KV' := hid (KV.mono fun e w' h => h.atom_ hlv)
    clear KV hlv HEP
    have ARM : True := trivial
    cases hod : orderP (dataB v) with
    | none =>
      have HE : Hid (rangP (v :: r) = none) := by show _ = _; rw [HE0.out, hod]; rfl
      go_wp2_with first
        | (go_at_call 81; refine (KV'.out).mono ?_; rintro e w1 ⟨A1, c1, rfl, hc1, hr1, hb1⟩; have k2 := run_back (hr1.reads (by omega)) (c := c1); have KO := hid (pReadOrder (dataB v) w1 (HT.out.old hb1)); have hD : bT (dataB v) = ⟨(dataB v).toArray⟩ := rfl; rw [hD] at KO; generalize (⟨(dataB v).toArray⟩ : ByteArray) = D at k2 KO; clear hD hr1)
        | (go_at_call 111; refine (KO.out).mono ?_; rintro e w2 he; obtain ⟨rfl, hw⟩ := he.none_ hod; subst w2)
      exact ⟨rfl, .inl ⟨HE.out, rfl, next_below HB0.out hb1⟩⟩
    | some o =>
      have HE1 : Hid (rangP (v :: r) = bind2 (_root_.Tag12.endP r 103) fun lo q => bind2 (_root_.Tag12.endP q 108) fun hi q2 => if q2 = [] ∧ mayR ordC ⟨o, lo, hi⟩ = true then some ⟨o, lo, hi⟩ else none) := by show _ = _; rw [HE0.out, hod]; rfl
      clear HE0
      go_upto_region 3 with first
        | (go_at_call 81; refine (KV'.out).mono ?_; rintro e w1 ⟨A1, c1, rfl, hc1, hr1, hb1⟩; have k2 := run_back (hr1.reads (by omega)) (c := c1); have KO := hid (pReadOrder (dataB v) w1 (HT.out.old hb1)); have hD : bT (dataB v) = ⟨(dataB v).toArray⟩ := rfl; rw [hD] at KO; generalize (⟨(dataB v).toArray⟩ : ByteArray) = D at k2 KO; clear hD hr1)
        | (go_at_call 111; refine (KO.out).mono ?_; rintro e w2 he; obtain ⟨rfl, hw, ho5⟩ := he.some_ hod; subst w2)
      obtain ⟨W2, hW2⟩ : ∃ W2, W2 = w1.alloc (.cells #[.int .u8 o, .bool false, .bool false, .slice none 0 0, .bool false, .bool false, .slice none 0 0] 27) := ⟨_, rfl⟩
      rw [← hW2]
      have hb2 : Below w1.heap.size w1 W2 := by rw [hW2]; exact below_new _ _
      have D2 : Blk W2 w1.heap.size 27 #[.int .u8 o, .bool false, .bool false, .slice none 0 0, .bool false, .bool false, .slice none 0 0] := by rw [hW2]; exact Blk.new _ _ _
      have hb12 := next_below hb1 hb2
      have HB2 := hid (next_below HB0.out hb12)
      have B2 := hid (B0.out.old hb12)
      have hg2 : w.heap.size + 1 ≤ w1.heap.size := by have := hb1.size; omega
      have hgW : w1.heap.size < W2.heap.size := D2.lt
      have HRW := HS0.out.old hb12
      have HSW : Hid (∀ b, S b → b < W2.heap.size) := fun b hb => by have := HSS.out b hb; omega
      have HSG : Hid (∀ b, S b → b < w1.heap.size) := fun b hb => by have := HSS.out b hb; omega
      have D2 := hid D2
      obtain ⟨A9, hA9⟩ : ∃ A9, (if c = 1 then some ad else some (⟨ad.block, ad.off + 5, none⟩ : Addr)) = A9 := ⟨_, rfl⟩
      have HR9 : Hid (RowS W2 S r A9 (n - 1) (c - 1)) := by
        have h := HRW.drop (k := 1) (by omega)
        rw [← hA9]
        exact h
      have h1I : (1 : Int) ≤ (n : Int) := by omega
      generalize w1.heap.size = g2 at *
      clear hb1 hb2 hb12 hW2 HRW HS0 KV' HT d0 d1 d2 d3 d4 HR X0
      go_upto_region 4 with fail
      try rw [hA9]
      clear hA9
      have KE := pReadEnd r 103 W2 S A9 (n - 1) (c - 1) HR9.out HSW.out (fun x hx => HD.out x (by simp [hx]))
      obtain ⟨oe, hoe⟩ : ∃ x, x = _root_.Tag12.endP r 103 := ⟨_, rfl⟩
      cases oe with
      | none =>
        have HE : Hid (rangP (v :: r) = none) := by show _ = _; rw [HE1.out, ← hoe]; rfl
        have KE' := hid (KE.mono fun e w' h => h.none_ hoe.symm)
        clear KE hoe
        go_wp2_with (go_at_call 112; refine (KE'.out).mono ?_; rintro e w3 ⟨rfl, hb3⟩)
        exact ⟨rfl, .inl ⟨HE.out, rfl, next_below HB2.out hb3⟩⟩
      | some xq =>
        obtain ⟨lo, q⟩ := xq
        have HE2 : Hid (rangP (v :: r) = bind2 (_root_.Tag12.endP q 108) fun hi q2 => if q2 = [] ∧ mayR ordC ⟨o, lo, hi⟩ = true then some ⟨o, lo, hi⟩ else none) := by show _ = _; rw [HE1.out, ← hoe]; rfl
        obtain ⟨fl, fq⟩ := endP_fine (N := 1099511627776) hoe.symm (fun x hx => HD.out x (by simp [hx]))
        have HFL := hid fl
        have HFQ := hid fq
        have KE' := hid (KE.mono fun e w' h => h.some_ hoe.symm)
        clear KE hoe HE1 fl fq HR9
        go_upto_region 5 with (go_at_call 112; refine (KE'.out).mono ?_; rintro e w3 ⟨A3, n3, c3, A5, n5, c5, rfl, hr3, hc3, hn3, hq3, hb3⟩; have D3 := D2.out.old hb3; have z1 := D3.cell 1; have z2 := D3.cell 2; have z3 := D3.cell 3; have y1 := D3.frozen 1; have y2 := D3.frozen 2; have y3 := D3.frozen 3)
        obtain ⟨W4, hW4⟩ : ∃ W4, W4 = ((w3.setCell ⟨g2, 1, none⟩ (.bool lo.is)).setCell ⟨g2, 2, none⟩ (.bool lo.op)).setCell ⟨g2, 3, none⟩ (.slice A3 n3 c3) := ⟨_, rfl⟩
        rw [← hW4]
        have D4 : Blk W4 g2 27 #[.int .u8 o, .bool lo.is, .bool lo.op, .slice A3 n3 c3, .bool false, .bool false, .slice none 0 0] := by
          rw [hW4]
          have h1 : Blk (w3.setCell ⟨g2, 1, none⟩ (.bool lo.is)) g2 27 #[.int .u8 o, .bool lo.is, .bool false, .slice none 0 0, .bool false, .bool false, .slice none 0 0] := D3.set_ 1 _
          have h2 : Blk ((w3.setCell ⟨g2, 1, none⟩ (.bool lo.is)).setCell ⟨g2, 2, none⟩ (.bool lo.op)) g2 27 #[.int .u8 o, .bool lo.is, .bool lo.op, .slice none 0 0, .bool false, .bool false, .slice none 0 0] := h1.set_ 2 _
          exact h2.set_ 3 _
        have hfar : ∀ p : Addr, p.block ≠ g2 → W4.cell? p = w3.cell? p := fun p hp => by
          rw [hW4, World.cell?_setCell_other _ _ _ _ (fun e => hp (by rw [← e])), World.cell?_setCell_other _ _ _ _ (fun e => hp (by rw [← e])), World.cell?_setCell_other _ _ _ _ (fun e => hp (by rw [← e]))]
        have hb4 : Below g2 W2 W4 := by rw [hW4]; exact (((hb3.mono (by omega)).setCell (by exact Nat.le_refl g2) _).setCell (by exact Nat.le_refl g2) _).setCell (by exact Nat.le_refl g2) _
        have hr4 : Hid (RIn W4 (fun b => W2.heap.size ≤ b) 1 A3 n3 (Lib.byteCells lo.at_)) := hr3.keep fun p hp => hfar p (by have hp : W2.heap.size ≤ p.block := hp; omega)
        have HQ4 : Hid (RowS W4 S q A5 n5 c5) := hq3.keepS fun p hp => hfar p (by have := HSG.out _ hp; omega)
        have hsz4 : W2.heap.size ≤ W4.heap.size := hb4.size
        have HB4 := hid (HB2.out.trans (hb4.mono (by omega)))
        have B4 : Hid (Blk W4 w.heap.size 27 #[.int .u8 0, .bool false, .bool false, .slice none 0 0, .bool false, .bool false, .slice none 0 0]) := B2.out.below hb4 (by omega)
        have D4 := hid D4
        clear hW4 D3 hr3 hq3 hb3 hb4 hfar z1 z2 z3 y1 y2 y3 KE' D2 B2 HB2
        have KE := pReadEnd q 108 W4 S A5 n5 c5 HQ4.out (fun b hb => by have := HSG.out b hb; omega) HFQ.out
        obtain ⟨oe, hoe⟩ : ∃ x, x = _root_.Tag12.endP q 108 := ⟨_, rfl⟩
        cases oe with
        | none =>
          have HE : Hid (rangP (v :: r) = none) := by show _ = _; rw [HE2.out, ← hoe]; rfl
          have KE' := hid (KE.mono fun e w' h => h.none_ hoe.symm)
          clear KE hoe
          go_wp2_with (go_at_call 112; refine (KE'.out).mono ?_; rintro e w5 ⟨rfl, hb5⟩)
          exact ⟨rfl, .inl ⟨HE.out, rfl, next_below HB4.out hb5⟩⟩
        | some xq =>
          obtain ⟨hi, q2⟩ := xq
          have HE3 : Hid (rangP (v :: r) = if q2 = [] ∧ mayR ordC ⟨o, lo, hi⟩ = true then some ⟨o, lo, hi⟩ else none) := by show _ = _; rw [HE2.out, ← hoe]; rfl
          obtain ⟨fl2, -⟩ := endP_fine (N := 1099511627776) hoe.symm HFQ.out
          have HFH := hid fl2
          have KE' := hid (KE.mono fun e w' h => h.some_ hoe.symm)
          clear KE hoe HE2 fl2 HQ4 HFQ
          go_upto_region 6 with (go_at_call 112; refine (KE'.out).mono ?_; rintro e w5 ⟨A4, n4, c4, A6, n6, c6, rfl, hr5, hc5, hn5, hq5, hb5⟩; have D5 := D4.out.old hb5; have z4 := D5.cell 4; have z5 := D5.cell 5; have z6 := D5.cell 6; have y4 := D5.frozen 4; have y5 := D5.frozen 5; have y6 := D5.frozen 6)
          obtain ⟨W6, hW6⟩ : ∃ W6, W6 = ((w5.setCell ⟨g2, 4, none⟩ (.bool hi.is)).setCell ⟨g2, 5, none⟩ (.bool hi.op)).setCell ⟨g2, 6, none⟩ (.slice A4 n4 c4) := ⟨_, rfl⟩
          rw [← hW6]
          have D6 : Blk W6 g2 27 #[.int .u8 o, .bool lo.is, .bool lo.op, .slice A3 n3 c3, .bool hi.is, .bool hi.op, .slice A4 n4 c4] := by
            rw [hW6]
            have h1 : Blk (w5.setCell ⟨g2, 4, none⟩ (.bool hi.is)) g2 27 #[.int .u8 o, .bool lo.is, .bool lo.op, .slice A3 n3 c3, .bool hi.is, .bool false, .slice none 0 0] := D5.set_ 4 _
            have h2 : Blk ((w5.setCell ⟨g2, 4, none⟩ (.bool hi.is)).setCell ⟨g2, 5, none⟩ (.bool hi.op)) g2 27 #[.int .u8 o, .bool lo.is, .bool lo.op, .slice A3 n3 c3, .bool hi.is, .bool hi.op, .slice none 0 0] := h1.set_ 5 _
            exact h2.set_ 6 _
          have hfar : ∀ p : Addr, p.block ≠ g2 → W6.cell? p = w5.cell? p := fun p hp => by
            rw [hW6, World.cell?_setCell_other _ _ _ _ (fun e => hp (by rw [← e])), World.cell?_setCell_other _ _ _ _ (fun e => hp (by rw [← e])), World.cell?_setCell_other _ _ _ _ (fun e => hp (by rw [← e]))]
          have hb6 : Below g2 W4 W6 := by rw [hW6]; exact (((hb5.mono (by omega)).setCell (by exact Nat.le_refl g2) _).setCell (by exact Nat.le_refl g2) _).setCell (by exact Nat.le_refl g2) _
          have hL6 : Hid (RIn W6 (fun b => W2.heap.size ≤ b) 1 A3 n3 (Lib.byteCells lo.at_)) := (hr4.out.old (by omega) hb5).keep fun p hp => hfar p (by have hp : W2.heap.size ≤ p.block := hp; omega)
          have hH6 : Hid (RIn W6 (fun b => W2.heap.size ≤ b) 1 A4 n4 (Lib.byteCells hi.at_)) := (hr5.more fun b hb => by have hb : W4.heap.size ≤ b := hb; omega).keep fun p hp => hfar p (by have hp : W2.heap.size ≤ p.block := hp; omega)
          have hq6 := hq5.len.1
          have HB6 := hid (HB4.out.trans (hb6.mono (by omega)))
          have B6 : Hid (Blk W6 w.heap.size 27 #[.int .u8 0, .bool false, .bool false, .slice none 0 0, .bool false, .bool false, .slice none 0 0]) := B4.out.below hb6 (by omega)
          have e3 : lo.at_.length = n3 := by have := hr4.out.1; simpa [Lib.byteCells_length] using this
          have e4 : hi.at_.length = n4 := by have := hr5.1; simpa [Lib.byteCells_length] using this
          have HMAY : Hid (∀ V, Below W6.heap.size W6 V → Calls Tryz.prog 75 #[.agg #[.int .u8 o, .bool lo.is, .bool lo.op, .slice A3 n3 c3, .bool hi.is, .bool hi.op, .slice A4 n4 c4]] V fun e w' => e = .returned (.bool (mayR ordC ⟨o, lo, hi⟩)) ∧ Below V.heap.size V w') := fun V hV =>
            pMay11 ⟨o, lo, hi⟩ (by show o < 256; omega) V ⟨(hL6.out.old (by omega) hV).reads (by omega), by have := HFL.out; omega, hc3⟩ ⟨(hH6.out.old (by omega) hV).reads (by omega), by have := HFH.out; omega, hc5⟩
          have D6' := hid D6
          have x0 := D6.cell 0
          have x1 := D6.cell 1
          have x2 := D6.cell 2
          have x3 := D6.cell 3
          have x4 := D6.cell 4
          have x5 := D6.cell 5
          have x6 := D6.cell 6
          obtain ⟨mr, hmr⟩ : ∃ b, b = mayR ordC ⟨o, lo, hi⟩ := ⟨_, rfl⟩
          rw [← hmr] at HMAY HE3
          have HSM := hid (Below.refl W6.heap.size W6)
          clear hW6 D5 D6 hr5 hq5 hb5 hb6 hfar z4 z5 z6 y4 y5 y6 KE' D4 B4 HB4 hr4 e3 e4 hmr
          by_cases h6 : n6 = 0
          · subst h6
            have hq2 : q2 = [] := List.eq_nil_of_length_eq_zero hq6
            cases mr with
            | true =>
              have HE : Hid (rangP (v :: r) = some ⟨o, lo, hi⟩) := by show _ = _; rw [HE3.out, if_pos ⟨hq2, rfl⟩]
              clear hq2 hq6 HE3
              go_upto_region 7 with first
                | (go_at_call 75; refine (HMAY.out _ HSM.out).mono ?_; rintro e w7 ⟨rfl, hb7⟩; have D7 := D6'.out.old hb7; have x0 := D7.cell 0; have x1 := D7.cell 1; have x2 := D7.cell 2; have x3 := D7.cell 3; have x4 := D7.cell 4; have x5 := D7.cell 5; have x6 := D7.cell 6; have B7 := B6.out.old hb7)
                | (go_at_call 51; refine (must_true _).mono ?_; rintro e w2 ⟨rfl, hw⟩; subst w2)
              have HB7 := hid hb7
              clear hb7
              go_wp2_with (refine wpList_store_row rfl 27 (.tmp 2) (.tmp 38) rfl w.heap.size #[.int .u8 o, .bool lo.is, .bool lo.op, .slice A3 n3 c3, .bool hi.is, .bool hi.op, .slice A4 n4 c4] rfl rfl 27 #[.int .u8 0, .bool false, .bool false, .slice none 0 0, .bool false, .bool false, .slice none 0 0] B7 infoRg7 rfl (one7 _ _ _ _ _ _ _ _ _ _ _) ?_)
              exact bodyPost_ret (v := .agg #[.int .u8 o, .bool lo.is, .bool lo.op, .slice A3 n3 c3, .bool hi.is, .bool hi.op, .slice A4 n4 c4]) (results_cell_row Tryz.results95 _ _ w.heap.size 27 #[.int .u8 o, .bool lo.is, .bool lo.op, .slice A3 n3 c3, .bool hi.is, .bool hi.op, .slice A4 n4 c4] (0, 0) _ rfl (B7.row _) Tryz.underlying27 rfl infoRg7) rfl (.inr ⟨⟨o, lo, hi⟩, A3, n3, c3, A4, n4, c4, HE.out, rfl, by show o < 256; omega, ((hL6.out.old (by omega) HB7.out).keep fun p hp => row_cell (by have hp : W2.heap.size ≤ p.block := hp; omega)).more (fun b hb => by have hb : W2.heap.size ≤ b := hb; omega), hc3, hn3, ((hH6.out.old (by omega) HB7.out).keep fun p hp => row_cell (by have hp : W2.heap.size ≤ p.block := hp; omega)).more (fun b hb => by have hb : W2.heap.size ≤ b := hb; omega), hc5, hn5, below_row (next_below HB6.out HB7.out) (Nat.le_refl _) _⟩)
            | false =>
              have HE : Hid (rangP (v :: r) = none) := by show _ = _; rw [HE3.out, if_neg (by simp)]
              clear hq2 hq6 HE3
              go_wp2_with first
                | (go_at_call 75; refine (HMAY.out _ HSM.out).mono ?_; rintro e w7 ⟨rfl, hb7⟩)
                | (go_at_call 51; refine (must_false _).mono ?_; rintro e w2 ⟨he, hw⟩; have he2 : e = .panicked [{ v := .iface 35 (.int .i64 13), recovered := false }] := he; subst he2; subst w2)
              exact ⟨rfl, .inl ⟨HE.out, rfl, next_below HB6.out hb7⟩⟩
          · have HE : Hid (rangP (v :: r) = none) := by
              show _ = _
              rw [HE3.out, if_neg]
              rintro ⟨h, _⟩
              rw [h] at hq6
              exact h6 hq6.symm
            have h6B : ((n6 : Int) == 0) = false := by rw [beq_eq_false_iff_ne]; omega
            clear h6 hq6 HE3
            go_wp2_with (go_at_call 51; refine (must_false _).mono ?_; rintro e w2 ⟨he, hw⟩; have he2 : e = .panicked [{ v := .iface 35 (.int .i64 13), recovered := false }] := he; subst he2; subst w2)
            exact ⟨rfl, .inl ⟨HE.out, rfl, HB6.out⟩⟩
end Go.Proofs.YtinlonpcakkfhaaGreatDoor
end
section
set_option maxRecDepth 100000
namespace Go.Proofs.YtinlonpcakkfhaaGreatDoor
open Go Go.Proofs Go.RowKit Sx _root_.Ord11 Go.Proofs.YtinlonpcakkfhaaGreatDoor.Ord11 _root_.Tag12 Sch
def TgV (B : Nat) (t : TG) (v : Value) (w : World) : Prop := ∃ (k o : Nat) (i1 p1 i2 p2 : Bool) (A1 : Option Addr) (n1 c1 : Nat) (A2 : Option Addr) (n2 c2 : Nat) (A3 : Option Addr) (n3 c3 : Nat) (A4 : Option Addr) (n4 c4 : Nat), v = .agg #[.int .u8 k, .slice A1 n1 c1, .slice A2 n2 c2, .int .u8 o, .bool i1, .bool p1, .slice A3 n3 c3, .bool i2, .bool p2, .slice A4 n4 c4] ∧ TIn w (fun b => B ≤ b) t [.int .u8 k, .slice A1 n1 c1, .slice A2 n2 c2, .int .u8 o, .bool i1, .bool p1, .slice A3 n3 c3, .bool i2, .bool p2, .slice A4 n4 c4]
theorem TIn.tgV {w : World} {B : Nat} {t : TG} {c0 c1 c2 c3 c4 c5 c6 c7 c8 c9 : Value} (h : TIn w (fun b => B ≤ b) t [c0, c1, c2, c3, c4, c5, c6, c7, c8, c9]) : TgV B t (.agg #[c0, c1, c2, c3, c4, c5, c6, c7, c8, c9]) w := by
  obtain ⟨k, o, i1, p1, i2, p2, A1, n1, c1, A2, n2, c2, A3, n3, c3, A4, n4, c4, e⟩ := h.lets
  injection e with e0 e; injection e with e1 e; injection e with e2 e; injection e with e3 e; injection e with e4 e; injection e with e5 e; injection e with e6 e; injection e with e7 e; injection e with e8 e; injection e with e9 e
  subst e0 e1 e2 e3 e4 e5 e6 e7 e8 e9
  exact ⟨_, _, _, _, _, _, _, _, _, _, _, _, _, _, _, _, _, _, rfl, h⟩
theorem TgV.more {w : World} {B B' : Nat} {t : TG} {v : Value} (h : TgV B t v w) (hB : B' ≤ B) : TgV B' t v w := by
  obtain ⟨k, o, i1, p1, i2, p2, A1, n1, c1, A2, n2, c2, A3, n3, c3, A4, n4, c4, e, h⟩ := h
  exact ⟨k, o, i1, p1, i2, p2, A1, n1, c1, A2, n2, c2, A3, n3, c3, A4, n4, c4, e, h.more fun b hb => by have hb : B ≤ b := hb; omega⟩
theorem TgV.row {w : World} {B g : Nat} {t : TG} {v : Value} (h : TgV B t v w) (c : Array Value) (hg : g < B) : TgV B t v (w.setRow g c) := by
  obtain ⟨k, o, i1, p1, i2, p2, A1, n1, c1, A2, n2, c2, A3, n3, c3, A4, n4, c4, e, h⟩ := h
  exact ⟨k, o, i1, p1, i2, p2, A1, n1, c1, A2, n2, c2, A3, n3, c3, A4, n4, c4, e, h.keep fun p hp => row_cell (by have hp : B ≤ p.block := hp; omega)⟩
def ReadE (w : World) (o : Option TG) (e : Ending) (w' : World) : Prop := (o = none ∧ ThrownT e ∧ Below w.heap.size w w') ∨ (∃ t v, o = some t ∧ e = .returned v ∧ TgV w.heap.size t v w' ∧ Below w.heap.size w w')
theorem ReadE.none_ {w w' : World} {o : Option TG} {e : Ending} (h : ReadE w o e w') (hl : o = none) : e = .panicked [{ v := .iface 35 (.int .i64 13), recovered := false }] ∧ Below w.heap.size w w' := by
  rcases h with ⟨_, h, hb⟩ | ⟨t, v, h, _⟩
  · exact ⟨h, hb⟩
  · rw [hl] at h; cases h
theorem ReadE.some_ {w w' : World} {o : Option TG} {e : Ending} {t : TG} (h : ReadE w o e w') (hl : o = some t) : ∃ (k o : Nat) (i1 p1 i2 p2 : Bool) (A1 : Option Addr) (n1 c1 : Nat) (A2 : Option Addr) (n2 c2 : Nat) (A3 : Option Addr) (n3 c3 : Nat) (A4 : Option Addr) (n4 c4 : Nat), e = .returned (.agg #[.int .u8 k, .slice A1 n1 c1, .slice A2 n2 c2, .int .u8 o, .bool i1, .bool p1, .slice A3 n3 c3, .bool i2, .bool p2, .slice A4 n4 c4]) ∧ TIn w' (fun b => w.heap.size ≤ b) t [.int .u8 k, .slice A1 n1 c1, .slice A2 n2 c2, .int .u8 o, .bool i1, .bool p1, .slice A3 n3 c3, .bool i2, .bool p2, .slice A4 n4 c4] ∧ Below w.heap.size w w' := by
  rcases h with ⟨h, _⟩ | ⟨t', v, h, he, hv, hb⟩
  · rw [hl] at h; cases h
  · rw [hl] at h
    injection h with h
    subst h
    obtain ⟨k, o, i1, p1, i2, p2, A1, n1, c1, A2, n2, c2, A3, n3, c3, A4, n4, c4, rfl, h⟩ := hv
    exact ⟨k, o, i1, p1, i2, p2, A1, n1, c1, A2, n2, c2, A3, n3, c3, A4, n4, c4, he, h, hb⟩
theorem RangE.none_ {w w' : World} {o : Option Rg} {e : Ending} (h : RangE w o e w') (hl : o = none) : e = .panicked [{ v := .iface 35 (.int .i64 13), recovered := false }] ∧ Below w.heap.size w w' := by
  rcases h with ⟨_, h, hb⟩ | ⟨t, _, _, _, _, _, _, h, _⟩
  · exact ⟨h, hb⟩
  · rw [hl] at h; cases h
theorem RangE.some_ {w w' : World} {o : Option Rg} {e : Ending} {r : Rg} (h : RangE w o e w') (hl : o = some r) : ∃ A1 n1 c1 A2 n2 c2, e = .returned (.agg #[.int .u8 r.o, .bool r.lo.is, .bool r.lo.op, .slice A1 n1 c1, .bool r.hi.is, .bool r.hi.op, .slice A2 n2 c2]) ∧ r.o < 256 ∧ RIn w' (fun b => w.heap.size ≤ b) 1 A1 n1 (Lib.byteCells r.lo.at_) ∧ n1 ≤ c1 ∧ n1 ≤ 140737488355328 ∧ RIn w' (fun b => w.heap.size ≤ b) 1 A2 n2 (Lib.byteCells r.hi.at_) ∧ n2 ≤ c2 ∧ n2 ≤ 140737488355328 ∧ Below w.heap.size w w' := by
  rcases h with ⟨h, _⟩ | ⟨r', A1, n1, c1, A2, n2, c2, h, he⟩
  · rw [hl] at h; cases h
  · rw [hl] at h; injection h with h; subst h; exact ⟨A1, n1, c1, A2, n2, c2, he⟩
theorem one10 (k o : Nat) (i1 p1 i2 p2 : Bool) (A1 : Option Addr) (n1 c1 : Nat) (A2 : Option Addr) (n2 c2 : Nat) (A3 : Option Addr) (n3 c3 : Nat) (A4 : Option Addr) (n4 c4 : Nat) : ((#[.int .u8 k, .slice A1 n1 c1, .slice A2 n2 c2, .int .u8 o, .bool i1, .bool p1, .slice A3 n3 c3, .bool i2, .bool p2, .slice A4 n4 c4] : Array Value).all (·.oneCell')) = true := by kernel_rfl
theorem infoTag10 : (Tryz.prog.info? 29).map (·.size) = some 10 := by kernel_rfl
def ReadSpec (t : SX) : Prop := ∀ (w : World) (S : Nat → Prop) (cs : List Value), SIn w S t cs → (∀ b, S b → b < w.heap.size) → bare t → nodes t ≤ 1099511627776 → clean t = true → (form t).length ≤ 1099511627776 → OrdT w →
  Calls Tryz.prog 60 #[.agg cs.toArray] w (ReadE w (getT ordC t))
def KidOk (x : SX) : Prop := bare x ∧ nodes x ≤ 1099511627776 ∧ clean x = true ∧ (form x).length ≤ 1099511627776 ∧ dlen x ≤ 1099511627776
def AllE (w : World) (o : Option (List TG)) (e : Ending) (w' : World) : Prop := (o = none ∧ ThrownT e ∧ Below w.heap.size w w') ∨ (∃ ts v, o = some ts ∧ e = .returned v ∧ TlO (fun _ => False) w.heap.size ts v w' ∧ Below w.heap.size w w')
theorem AllE.none_ {w w' : World} {o : Option (List TG)} {e : Ending} (h : AllE w o e w') (hl : o = none) : e = .panicked [{ v := .iface 35 (.int .i64 13), recovered := false }] ∧ Below w.heap.size w w' := by
  rcases h with ⟨_, h, hb⟩ | ⟨t, v, h, _⟩
  · exact ⟨h, hb⟩
  · rw [hl] at h; cases h
theorem AllE.some_ {w w' : World} {o : Option (List TG)} {e : Ending} {ts : List TG} (h : AllE w o e w') (hl : o = some ts) : ∃ v, e = .returned v ∧ TlO (fun _ => False) w.heap.size ts v w' ∧ Below w.heap.size w w' := by
  rcases h with ⟨h, _⟩ | ⟨t', v, h, he⟩
  · rw [hl] at h; cases h
  · rw [hl] at h; injection h with h; subst h; exact ⟨v, he⟩
theorem tlo_none {Sd : Nat → Prop} {B : Nat} {V : World} : TlO Sd B [] (.slice none 0 0) V := ⟨0, [], rfl, ⟨rfl, .inl ⟨rfl, rfl⟩⟩, fun i t h => by simp at h⟩
set_option maxHeartbeats 8000000 in
theorem pReadAll (l : List SX) (IH : ∀ t ∈ l, ReadSpec t) (A : Option Addr) (n c : Nat) (w : World) (S : Nat → Prop) (hs : RowS w S l A n c) (hS : ∀ b, S b → b < w.heap.size) (hk : ∀ x ∈ l, KidOk x) (hn : l.length ≤ 1099511627776) (ht : OrdT w) :
    Calls Tryz.prog 82 #[.slice A n c] w (AllE w (getsT ordC l)) := by
  obtain ⟨hl, hc, hm⟩ := hs.len
  have HS := hid hs
  have HI := hid IH
  have HSS := hid hS
  have HL := hid hl
  have HK := hid hk
  have HT := hid ht
  have hn4 : n ≤ 1099511627776 := by omega
  obtain ⟨ib, hib, hzb0, hzb1, hzb2⟩ := info_parts infoTagB
  have HIB := hid hib
  have HO0 : Hid (TlO (fun _ => False) w.heap.size [] (.slice none 0 0) w) := tlo_none
  clear hs IH hS hl hk ht hib hn
  go_enter Tryz.func82, Tryz.ntmps82
  go_wp2_with fail
  go_loopw [3, 8] (fun p i wr => ∃ (q : Nat) (v : Value) (ts : List TG), v = p ∧ q ≤ n ∧ i = .int .i64 q ∧ Hid (TlO (fun _ => False) w.heap.size ts v wr ∧ getsT ordC (l.take q) = some ts) ∧ Below w.heap.size w wr) (fun _ i _ => n - (intOf i).toNat)
  case atStart => exact ⟨0, _, [], rfl, Nat.zero_le _, rfl, ⟨HO0.out, by rw [List.take_zero, getsT]⟩, Below.refl _ _⟩
  case round =>
    obtain ⟨q, v, ts, rfl, hqn, rfl, hlo, hbel⟩ := hrel
    by_cases hlt : q < n
    · obtain ⟨ad, v0, v1, v2, v3, v4, x, rfl, hS0, hx0, hxm, hin, d0, d1, d2, d3, d4⟩ := (HS.out.old hbel).at_ hlt
      obtain ⟨xl, xh, B1, m1, j1, B2, m2, j2, B3, m3, j3, eE⟩ := hin.lets
      injection eE with eE0 eE; injection eE with eE1 eE; injection eE with eE2 eE; injection eE with eE3 eE; injection eE with eE4 eE
      subst eE0 eE1 eE2 eE3 eE4
      clear eE
      obtain ⟨w1, hw1⟩ : ∃ w1, w1 = wr.alloc (.cells #[.bool xl, .bool xh, .slice B1 m1 j1, .slice B2 m2 j2, .slice B3 m3 j3] 34) := ⟨_, rfl⟩
      have hb1 : Below wr.heap.size wr w1 := by rw [hw1]; exact below_new _ _
      have D1 : Blk w1 wr.heap.size 34 #[.bool xl, .bool xh, .slice B1 m1 j1, .slice B2 m2 j2, .slice B3 m3 j3] := by rw [hw1]; exact Blk.new _ _ _
      have HBEL := hid (hbel.trans (hb1.mono hbel.size))
      obtain ⟨k1, k2, k3, k4, k5⟩ := HK.out x hxm
      have KR := HI.out x hxm w1 S _ (hin.old hb1) (fun b hb => Nat.lt_of_lt_of_le (HSS.out b hb) HBEL.out.size) k1 k2 k3 k4 (HT.out.old HBEL.out)
      have HM := hid hxm
      have HX := hid hx0
      obtain ⟨nA, xsA, hlA, hownW, hkW⟩ := hlo.out.1.old hb1
      have HLA := hid hlA
      have HOW := hid hownW
      have HKW := hid hkW
      have hnA : nA ≤ q := by rw [← HLA.out, getsT_len ordC hlo.out.2, List.length_take]; omega
      have hws : w.heap.size ≤ w1.heap.size := HBEL.out.size
      clear hS0 hx0 hxm hin hlA hownW hkW hb1 hbel k1 k2 k3 k4 k5
      go_upto_region 5 with fail
      rw [← hw1]
      clear hw1 d0 d1 d2 d3 d4
      have y0 := D1.cell 0
      have y1 := D1.cell 1
      have y2 := D1.cell 2
      have y3 := D1.cell 3
      have y4 := D1.cell 4
      obtain ⟨a, ha⟩ : ∃ a, a = getT ordC x := ⟨_, rfl⟩
      cases a with
      | none =>
        have HE : Hid (getsT ordC l = none) := getsT_none ordC HM.out ha.symm
        have KR' := hid (KR.mono fun e w' h => h.none_ ha.symm)
        clear KR ha
        go_wp2_with (go_at_call 60; refine (KR'.out).mono ?_; rintro e V1 ⟨rfl, hb1⟩)
        exact ⟨rfl, .inl ⟨HE.out, rfl, HBEL.out.trans (hb1.mono hws)⟩⟩
      | some t =>
        have KR' := hid (KR.mono fun e w' h => h.some_ ha.symm)
        have HA := hid ha
        clear KR ha
        go_wp2_with first | (go_at_call 60; refine (KR'.out).mono ?_; rintro e V1 ⟨k, o, i1, p1, i2, p2, A1, n1, c1, A2, n2, c2, A3, n3, c3, A4, n4, c4, rfl, hzin, hb1⟩; have HO1 := hid (own_old HOW.out hb1); have HZ := hid hzin; have HB1 := hid hb1; have hg1 : w.heap.size ≤ V1.heap.size := (by have := hb1.size; omega); clear hzin hb1) | (at_builtin; refine wpList_append_any _ rfl (.tmp 12) (.tmp 15) 23 rfl w.heap.size 29 ib _ 10 128 Tryz.underlying23 HIB.out hzb0 hzb1 hzb2 rfl (by omega) _ nA xsA rfl (HO1.out.alloc _) _ _ 1 _ [.int .u8 k, .slice A1 n1 c1, .slice A2 n2 c2, .int .u8 o, .bool i1, .bool p1, .slice A3 n3 c3, .bool i2, .bool p2, .slice A4 n4 c4] rfl (reads_lit10 V1 _ _ _ _ _ _ _ _ _ _) (ones_tin HZ.out) (by unfold maxLen; omega) (by omega) (by simp; omega) ?_; intro v' V3 hown' hgr hbl)
        have hba : Below V1.heap.size V1 (V1.alloc (.cells #[.int .u8 k, .slice A1 n1 c1, .slice A2 n2 c2, .int .u8 o, .bool i1, .bool p1, .slice A3 n3 c3, .bool i2, .bool p2, .slice A4 n4 c4] 29)) := below_new _ _
        have HNEW : Hid (TlO (fun _ => False) w.heap.size (ts ++ [t]) v' V3) := tlo_app (S0 := fun _ => False) (B2 := w1.heap.size) HLA.out (HO1.out.alloc _) (fun i t hi => ((HKW.out i t hi).old HB1.out).old hba) rfl (kids_oneT ((HZ.out.old hba).more fun b hb => .inr hb)) (fun b hb => hb.elim) hws (fun b hb => (HOW.out.lt b hb).2) hown' hgr hbl
        have HB3 : Below w.heap.size w V3 := (((HBEL.out.trans (HB1.out.mono hws)).alloc (by omega) _).grown hgr (by simp; omega) (fun b hb => (HO1.out.lt b hb).1))
        clear hown' hgr hbl
        go_wp2_with fail
        go_roundw
        case rel => exact ⟨q + 1, _, ts ++ [t], rfl, by omega, by go_num, ⟨HNEW.out, by rw [take_snoc l q x HX.out, getsT_snoc, hlo.out.2, ← HA.out]⟩, HB3⟩
        case measure => simp [intOf]; omega
    · obtain rfl : q = n := by omega
      have hE : Hid (getsT ordC l = some ts) := by
        have h := hlo.out.2
        rwa [List.take_of_length_le (by rw [HL.out]; exact Nat.le_refl _)] at h
      have HTL : Hid (TlO (fun _ => False) w.heap.size ts v wr) := hlo.out.1
      go_wp2_with fail
      go_ret
      exact .inr ⟨ts, _, hE.out, rfl, HTL.out, hbel⟩
end Go.Proofs.YtinlonpcakkfhaaGreatDoor
end
section
set_option maxRecDepth 100000
namespace Go.Proofs.YtinlonpcakkfhaaGreatDoor
open Go Go.Proofs Go.RowKit Sx _root_.Ord11 Go.Proofs.YtinlonpcakkfhaaGreatDoor.Ord11 _root_.Tag12 Sch
def prefP (q : List SX) : Option TG := match q with | [y] => if listB y = true then none else some (.mk 5 (dataB y) zeroR []) | _ => none
theorem specP_at (x : SX) (q : List SX) : specP (x :: q) = if listB x = true then none else if dataB x = setW then (getsT ordC q).map (fun ks => .mk 4 [] zeroR ks) else if dataB x = prefW then prefP q else if dataB x = rangW then toR (rangP q) else none := rfl
theorem quiet_cnv {P : Program} {o : Oper} {ev : Operand → Value} {V : World} (x : Operand) (a v : Value) (T K : TypeId) (hx : ev x = a) (hc : (convert T K a).run P V = .ok v V) (ho : o.op = .convert T K x) : (execOp ev o).run P V = .ok (.value v) V := by
  unfold execOp
  simp only [ho, hx, Sem.run_bind, hc, Result.andThen_ok, Sem.run_pure]
set_option maxHeartbeats 16000000 in
theorem pReadSpecial (l : List SX) (IH : ∀ t ∈ l, ReadSpec t) (A : Option Addr) (n c : Nat) (w : World) (S : Nat → Prop) (hs : RowS w S l A n c) (hS : ∀ b, S b → b < w.heap.size) (hk : ∀ x ∈ l, KidOk x) (hln : l.length ≤ 1099511627776) (ht : OrdT w) :
    Calls Tryz.prog 83 #[.slice A n c] w (ReadE w (specP l)) := by
  obtain ⟨hl, hc, hm⟩ := hs.len
  obtain ⟨w0, hw0⟩ : ∃ w0, w0 = (w.alloc (.cells #[.int .u8 0, .slice none 0 0, .slice none 0 0, .int .u8 0, .bool false, .bool false, .slice none 0 0, .bool false, .bool false, .slice none 0 0] 29)) := ⟨_, rfl⟩
  have HB0 : Hid (Below w.heap.size w w0) := by
    show Below _ _ _
    rw [hw0]
    exact (Below.refl w.heap.size w).alloc (Nat.le_refl _) _
  have B0 : Blk w0 w.heap.size 29 #[.int .u8 0, .slice none 0 0, .slice none 0 0, .int .u8 0, .bool false, .bool false, .slice none 0 0, .bool false, .bool false, .slice none 0 0] := by
    rw [hw0]
    exact Blk.new w 29 #[.int .u8 0, .slice none 0 0, .slice none 0 0, .int .u8 0, .bool false, .bool false, .slice none 0 0, .bool false, .bool false, .slice none 0 0]
  have X0 : Hid (∀ W, Below w0.heap.size w0 W → ∀ kx u, (#[.int .u8 0, .slice none 0 0, .slice none 0 0, .int .u8 0, .bool false, .bool false, .slice none 0 0, .bool false, .bool false, .slice none 0 0] : Array Value)[kx]? = some u → W.cell? ⟨w.heap.size, kx, none⟩ = some u) := fun W hW kx u hk => cell_below hW ((B0.cell kx).trans hk) B0.lt
  have HR : Below w0.heap.size w0 w0 := Below.refl _ _
  have hz0 : w0.heap.size = w.heap.size + 1 := by rw [hw0]; simp
  have B0 := hid B0
  have HSS := hid hS
  have HKO := hid hk
  have HIH := hid IH
  have HT := hid (ht.old HB0.out)
  have HS0 := hid (hs.old HB0.out)
  have HLN := hid hln
  clear hs hS hk IH ht hln
  go_enter Tryz.func83, Tryz.ntmps83
  go_upto_region 1 with fail
  rw [← hw0]
  clear hw0
  by_cases h0 : n = 0
  · have HE : Hid (specP l = some (.mk 1 [] zeroR [])) := by
      show _ = _
      rw [List.eq_nil_of_length_eq_zero (by omega : l.length = 0)]; rfl
    subst h0
    go_wp2_with (refine wpList_store_row rfl 29 (.tmp 2) (.tmp 8) rfl w.heap.size #[.int .u8 1, .slice none 0 0, .slice none 0 0, .int .u8 0, .bool false, .bool false, .slice none 0 0, .bool false, .bool false, .slice none 0 0] rfl rfl 29 #[.int .u8 0, .slice none 0 0, .slice none 0 0, .int .u8 0, .bool false, .bool false, .slice none 0 0, .bool false, .bool false, .slice none 0 0] B0.out infoTag10 rfl (one10 _ _ _ _ _ _ _ _ _ _ _ _ _ _ _ _ _ _) ?_)
    exact bodyPost_ret (v := .agg #[.int .u8 1, .slice none 0 0, .slice none 0 0, .int .u8 0, .bool false, .bool false, .slice none 0 0, .bool false, .bool false, .slice none 0 0]) (results_cell_row Tryz.results83 _ _ w.heap.size 29 #[.int .u8 1, .slice none 0 0, .slice none 0 0, .int .u8 0, .bool false, .bool false, .slice none 0 0, .bool false, .bool false, .slice none 0 0] (0, 0) _ rfl (B0.out.row _) Tryz.underlying29 rfl infoTag10) rfl (.inr ⟨_, _, HE.out, rfl, TIn.tgV (tin_two (k := 1) (d := []) (by omega) RIn.none_ ⟨Nat.le_refl _, by omega⟩), below_row HB0.out (Nat.le_refl _) _⟩)
  have h0B : ((n : Int) == 0) = false := by rw [beq_eq_false_iff_ne]; omega
  obtain ⟨ad, v0, v1, v2, v3, v4, x, rfl, hS0, hx, hxm, hin, d0, d1, d2, d3, d4⟩ := HS0.out.at_ (k := 0) (by omega)
  obtain ⟨q, rfl⟩ : ∃ q, l = x :: q := by
    rcases l with _ | ⟨v', r⟩
    · simp at hx
    · have e1 : v' = x := by simpa using hx
      subst e1
      exact ⟨r, rfl⟩
  have h0P : 0 < n := by omega
  have h1P : 1 ≤ n := by omega
  have HQN : Hid (q.length = n - 1) := by show _ = _; simp at hl; omega
  have HEP := hid (specP_at x q)
  have HIN := hid hin
  have KX : Hid (∀ W, Below w0.heap.size w0 W → Calls Tryz.prog 81 #[.agg #[v0, v1, v2, v3, v4]] W (AtomEnd W x)) := fun W hW => pReadAtom x W S _ (HIN.out.old hW)
  have KF : Hid (∀ V, Below w0.heap.size w0 V → ∀ j u, (#[v0, v1, v2, v3, v4] : Array Value)[j]? = some u → V.cell? ((ad.add (0 * 5)).add j) = some u) := fun V hV => by
    have h := fun p u (h : w0.cell? p = some u) => (hV.cell (World.block_lt_of_cell? _ _ h)).trans h
    exact at_five (h _ _ d0) (h _ _ d1) (h _ _ d2) (h _ _ d3) (h _ _ d4)
  rw [Nat.zero_mul, show ad.add 0 = ad from if_pos rfl] at d0 d1 d2 d3 d4
  clear hx hxm hin hS0 hl h0
  go_upto_region 3 with fail
  cases hlx : listB x with
  | true =>
    have HE : Hid (specP (x :: q) = none) := by show _ = _; rw [HEP.out, if_pos hlx]
    have hdr : Below w0.heap.size w0 w0.drew := (Below.refl _ _).drew
    have KX' := hid ((KX.out _ hdr).mono fun e w' h => h.list_ hlx)
    have h0I : (0 : Int) < (n : Int) := by omega
    have h1I : (1 : Int) ≤ (n : Int) := by omega
    have f0' : w0.drew.cell? ad = some v0 := d0
    have f1' : w0.drew.cell? ⟨ad.block, ad.off + 1, none⟩ = some v1 := d1
    have f2' : w0.drew.cell? ⟨ad.block, ad.off + 2, none⟩ = some v2 := d2
    have f3' : w0.drew.cell? ⟨ad.block, ad.off + 3, none⟩ = some v3 := d3
    have f4' : w0.drew.cell? ⟨ad.block, ad.off + 4, none⟩ = some v4 := d4
    have HFI : Hid (∀ w', Below w0.drew.heap.size w0.drew w' → ReadE w (specP (x :: q)) (.panicked [{ v := .iface 35 (.int .i64 13), recovered := false }]) w') := fun w' hb => .inl ⟨HE.out, rfl, next_below (next_below HB0.out hdr) hb⟩
    clear d0 d1 d2 d3 d4 hlx
    go_region_dies
    all_goals
      (refine KX'.out.mono ?_)
      rintro e w4 ⟨rfl, hb4⟩
      exact ⟨rfl, HFI.out _ hb4⟩
  | false =>
    have KX2 : Hid (∀ V, Below w0.heap.size w0 V → Calls Tryz.prog 81 #[.agg #[v0, v1, v2, v3, v4]] V fun e w' => ∃ v, e = .returned v ∧ BtV w0.heap.size (dataB x) v w' ∧ Below V.heap.size V w') := fun V hV => by
      refine (KX.out V hV).mono ?_
      rintro e w' h
      obtain ⟨A, c1, rfl, h1, h2, h3⟩ := h.atom_ hlx
      exact ⟨_, rfl, ⟨A, c1, rfl, h1, h2.more fun b hb => by have hb : V.heap.size ≤ b := hb; have := hV.size; omega⟩, h3⟩
    have HE0 : Hid (specP (x :: q) = if dataB x = setW then (getsT ordC q).map (fun ks => .mk 4 [] zeroR ks) else if dataB x = prefW then prefP q else if dataB x = rangW then toR (rangP q) else none) := by show _ = _; rw [HEP.out, if_neg (by rw [hlx]; simp)]
    obtain ⟨A9, hA9⟩ : ∃ A9, (if c = 1 then some ad else (some ad : Option Addr).map (·.add (1 * 5))) = A9 := ⟨_, rfl⟩
    have HA9 := hid hA9
    have HSQ : Hid (RowS w0 S q A9 (n - 1) (c - 1)) := by
      have h := HS0.out.drop (k := 1) (by omega)
      rw [← HA9.out]
      exact h
    have HCV : Hid (∀ (V : World) (A : Option Addr) (c : Nat), RIn V (fun b => w0.heap.size ≤ b) 1 A (dataB x).length (Lib.byteCells (dataB x)) → (convert 22 9 (.slice A (dataB x).length c)).run Tryz.prog V = .ok (.string ⟨(dataB x).toArray⟩) V) := fun V A c h => run_back (h.reads (by omega))
    have HDL : Hid ((⟨(dataB x).toArray⟩ : ByteArray).toList = dataB x) := bT_list _
    generalize (⟨(dataB x).toArray⟩ : ByteArray) = D at HCV HDL
    clear d0 d1 d2 d3 d4 hlx KX hA9 HEP
    try simp only [Act.put]
    refine wp_R [9, 10, 11, 12, 13, 14, 15, 3, 4] [Rk.val (.slice (some ad) n c), Rk.val (.pointer (some (ad.add (0 * 5)))), Rk.val (.agg #[v0, v1, v2, v3, v4]), Rk.is (fun v V => BtV w0.heap.size (dataB x) v V) (fun _ _ _ h hb => h.old hb), Rk.val (.string D), Rk.val (.slice (some ad) n c), Rk.val (.slice A9 (n - 1) (c - 1)), Rk.val (.string D), Rk.val (.slice A9 (n - 1) (c - 1))] rfl (by kernel_rfl) (by kernel_rfl) (by kernel_rfl) (by kernel_rfl) ?hgs _ (by rfl) ?hfs
    case hgs =>
      refine gr_val rfl (by kernel_rfl) (fun a V H K Q hK => op_quiet (quiet_move (.tmp 0) (H.old 0 (by kernel_rfl) (by kernel_rfl)) (.inl (by kernel_rfl))) hK) ?_
      refine gr_val rfl (by kernel_rfl) (fun a V H K Q hK => op_quiet (quiet_indexN (.tmp 9) (.const (.int .i64 0)) ad n c 0 5 32 34 (H.rel 0 9 (by kernel_rfl) (by kernel_rfl) rfl) (show a.eval (.const (.int .i64 0)) = .int .i64 ((0 : Nat) : Int) from rfl) h0P Tryz.underlying32 (by kernel_rfl) (by kernel_rfl)) hK) ?_
      refine gr_val rfl (by kernel_rfl) (fun a V H K Q hK => op_quiet (quiet_aggA 34 (.tmp 10) (ad.add (0 * 5)) (H.rel 1 10 (by kernel_rfl) (by kernel_rfl) rfl) #[v0, v1, v2, v3, v4] (KF.out _ H.frame) Tryz.underlying34 rfl (by kernel_rfl) (by kernel_rfl)) hK) ?_
      refine gr_is rfl (by kernel_rfl) (fun a V H K Q hK => op_callR #[.tmp 11] #[.agg #[v0, v1, v2, v3, v4]] (by kernel_rfl) (by kernel_rfl) (by kernel_rfl) (map1 (H.rel 2 11 (by kernel_rfl) (by kernel_rfl) rfl)) (KX2.out _ H.frame) (by kernel_rfl) hK) ?_
      refine gr_val rfl (by kernel_rfl) (fun a V H K Q hK => by
          obtain ⟨A, c1, e12, _, hr⟩ := (show BtV w0.heap.size (dataB x) (a.eval (.tmp 12)) V from (H.rel 3 12 (by kernel_rfl) (by kernel_rfl) rfl))
          exact op_quiet (quiet_cnv (.tmp 12) _ _ 22 9 e12 (HCV.out V A c1 hr) (by kernel_rfl)) hK) ?_
      refine gr_val rfl (by kernel_rfl) (fun a V H K Q hK => op_quiet (quiet_move (.tmp 0) (H.old 0 (by kernel_rfl) (by kernel_rfl)) (.inl (by kernel_rfl))) hK) ?_
      refine gr_val rfl (by kernel_rfl) (fun a V H K Q hK => op_quiet (quiet_sliceL (.tmp 14) (.const (.int .i64 1)) (some ad) A9 n c 1 5 32 34 (H.rel 5 14 (by kernel_rfl) (by kernel_rfl) rfl) (show a.eval (.const (.int .i64 1)) = .int .i64 ((1 : Nat) : Int) from rfl) h1P Tryz.underlying32 (by kernel_rfl) HA9.out (by kernel_rfl)) hK) ?_
      refine gr_val rfl (by kernel_rfl) (fun a V H K Q hK => op_quiet (quiet_move (.tmp 13) (H.rel 4 13 (by kernel_rfl) (by kernel_rfl) rfl) (.inr (by kernel_rfl))) hK) ?_
      refine gr_val rfl (by kernel_rfl) (fun a V H K Q hK => op_quiet (quiet_move (.tmp 15) (H.rel 6 15 (by kernel_rfl) (by kernel_rfl) rfl) (.inr (by kernel_rfl))) hK) ?_
      exact gr_nil
    case hfs =>
      intro xx V hF
      have ev0 : xx 0 = .slice (some ad) n c := hF.rel 0 _ rfl
      have ev1 : xx 1 = .pointer (some (ad.add (0 * 5))) := hF.rel 1 _ rfl
      have ev2 : xx 2 = .agg #[v0, v1, v2, v3, v4] := hF.rel 2 _ rfl
      have rv3 := hF.rel 3 _ rfl
      generalize hy3 : xx 3 = y3 at rv3 ⊢
      have ev4 : xx 4 = .string D := hF.rel 4 _ rfl
      have ev5 : xx 5 = .slice (some ad) n c := hF.rel 5 _ rfl
      have ev6 : xx 6 = .slice A9 (n - 1) (c - 1) := hF.rel 6 _ rfl
      have ev7 : xx 7 = .string D := hF.rel 7 _ rfl
      have ev8 : xx 8 = .slice A9 (n - 1) (c - 1) := hF.rel 8 _ rfl
      have hbf := hF.frame
      clear hF
      simp only [Sch.finL, zA, zB, zC, ev0, ev1, ev2, hy3, ev4, ev5, ev6, ev7, ev8]
      clear ev0 ev1 ev2 hy3 ev4 ev5 ev6 ev7 ev8
      have HB1 := hid hbf
      have B1 := hid (B0.out.old hbf)
      have HQ1 := hid (HSQ.out.old hbf)
      have HT1 := hid (HT.out.old hbf)
      have HBV := hid (next_below HB0.out hbf)
      have HSV : Hid (∀ b, S b → b < V.heap.size) := fun b hb => by have := HSS.out b hb; have := hbf.size; omega
      have hsV : w0.heap.size ≤ V.heap.size := hbf.size
      clear rv3 hbf
      refine tail_nil ?_
      have HKQ : Hid (∀ y ∈ q, KidOk y) := fun y hy => HKO.out y (by simp [hy])
      have HIQ : Hid (∀ y ∈ q, ReadSpec y) := fun y hy => HIH.out y (by simp [hy])
      have HLQ : Hid (q.length ≤ 1099511627776) := by have := HLN.out; show _ ≤ _; simp at this; omega
      generalize n - 1 = m at *
      generalize c - 1 = cm at *
      clear HKO HIH HLN HS0 HSQ HT KX2 KF HIN HCV HB1 HA9 X0 HR h0P h1P h0B 
      by_cases c1 : dataB x = setW
      · have q1 : (D.toList == [115, 101, 116]) = true := by rw [HDL.out, c1]; rfl
        have HE1 : Hid (specP (x :: q) = (getsT ordC q).map (fun ks => .mk 4 [] zeroR ks)) := by show _ = _; rw [HE0.out, if_pos c1]
        have KA := pReadAll q HIQ.out A9 m cm V S HQ1.out HSV.out HKQ.out HLQ.out HT1.out
        obtain ⟨oa, hoa⟩ : ∃ a, a = getsT ordC q := ⟨_, rfl⟩
        clear c1 HE0
        cases oa with
        | none =>
          have HE : Hid (specP (x :: q) = none) := by show _ = _; rw [HE1.out, ← hoa]; rfl
          have KA' := hid (KA.mono fun e w' h => h.none_ hoa.symm)
          clear KA hoa
          go_wp2_with (go_at_call 82; refine (KA'.out).mono ?_; rintro e w3 ⟨rfl, hb3⟩)
          exact ⟨rfl, .inl ⟨HE.out, rfl, next_below HBV.out hb3⟩⟩
        | some ts =>
          have HE : Hid (specP (x :: q) = some (.mk 4 [] zeroR ts)) := by show _ = _; rw [HE1.out, ← hoa]; rfl
          have hlts : ts.length ≤ 1099511627776 := by rw [getsT_len ordC hoa.symm]; exact HLQ.out
          have KA' := hid (KA.mono fun e w' h => h.some_ hoa.symm)
          clear KA hoa
          go_wp2_with first
            | (go_at_call 82; refine (KA'.out).mono ?_; rintro e w3 ⟨vv, rfl, hto, hb3⟩; obtain ⟨A8, n8, c8, rfl, htin⟩ := hto.tin (S0 := fun b => V.heap.size ≤ b) (k := 4) (by omega) hlts (fun b hb => hb.elim (fun h => h.elim) id); have HTN := hid htin; have HB3 := hid (next_below HBV.out hb3); have B3 := B1.out.old hb3; clear hto htin hb3)
            | (refine wpList_store_row rfl 29 (.tmp 2) (.tmp 21) rfl w.heap.size #[.int .u8 4, .slice none 0 0, .slice A8 n8 c8, .int .u8 0, .bool false, .bool false, .slice none 0 0, .bool false, .bool false, .slice none 0 0] rfl rfl 29 #[.int .u8 0, .slice none 0 0, .slice none 0 0, .int .u8 0, .bool false, .bool false, .slice none 0 0, .bool false, .bool false, .slice none 0 0] B3 infoTag10 rfl (one10 _ _ _ _ _ _ _ _ _ _ _ _ _ _ _ _ _ _) ?_)
          exact bodyPost_ret (v := .agg #[.int .u8 4, .slice none 0 0, .slice A8 n8 c8, .int .u8 0, .bool false, .bool false, .slice none 0 0, .bool false, .bool false, .slice none 0 0]) (results_cell_row Tryz.results83 _ _ w.heap.size 29 #[.int .u8 4, .slice none 0 0, .slice A8 n8 c8, .int .u8 0, .bool false, .bool false, .slice none 0 0, .bool false, .bool false, .slice none 0 0] (0, 0) _ rfl (B3.row _) Tryz.underlying29 rfl infoTag10) rfl (.inr ⟨_, _, HE.out, rfl, TIn.tgV ((HTN.out.keep fun p hp => row_cell (by have hp : V.heap.size ≤ p.block := hp; omega)).more fun b hb => by have hb : V.heap.size ≤ b := hb; omega), below_row HB3.out (Nat.le_refl _) _⟩)
      have q1 : (D.toList == [115, 101, 116]) = false := by rw [HDL.out, beq_eq_false_iff_ne]; exact c1
      by_cases c2 : dataB x = prefW
      · have q2 : (D.toList == [112, 114, 101, 102, 105, 120]) = true := by rw [HDL.out, c2]; rfl
        have HE1 : Hid (specP (x :: q) = prefP q) := by show _ = _; rw [HE0.out, if_neg c1, if_pos c2]
        clear c1 c2 HE0
        by_cases hm1 : m = 1
        · subst hm1
          obtain ⟨ad9, u0, u1, u2, u3, u4, y, rfl, hS9, hy, hym, hiny, f0, f1, f2, f3, f4⟩ := HQ1.out.at_ (k := 0) (by omega)
          have hqy : q = [y] := by
            rcases q with _ | ⟨y', _ | ⟨z, q⟩⟩
            · simp at hy
            · have : y' = y := by simpa using hy
              rw [this]
            · have := HQN.out; simp at this
          rw [Nat.zero_mul, show ad9.add 0 = ad9 from if_pos rfl] at f0 f1 f2 f3 f4
          have HE2 : Hid (specP (x :: q) = if listB y = true then none else some (.mk 5 (dataB y) zeroR [])) := by show _ = _; rw [HE1.out, hqy]; rfl
          have KY := pReadAtom y V S _ hiny
          have hdy := (HKQ.out y hym).2.2.2.2
          have hdy2 : (dataB y).length ≤ 140737488355328 := by
            have e : dlen y = (dataB y).length := by obtain ⟨_, _, _, _, _⟩ := y; rfl
            omega
          clear hqy hy hym hiny hS9 hdy
          cases hly : listB y with
          | true =>
            have HE : Hid (specP (x :: q) = none) := by show _ = _; rw [HE2.out, if_pos hly]
            have KY' := hid (KY.mono fun e w' h => h.list_ hly)
            clear KY hly
            go_wp2_with first
              | (go_at_call 51; refine (must_true _).mono ?_; rintro e w2 ⟨rfl, hw⟩; subst w2)
              | (go_at_call 81; refine (KY'.out).mono ?_; rintro e w3 ⟨rfl, hb3⟩)
            exact ⟨rfl, .inl ⟨HE.out, rfl, next_below HBV.out hb3⟩⟩
          | false =>
            have HE : Hid (specP (x :: q) = some (.mk 5 (dataB y) zeroR [])) := by show _ = _; rw [HE2.out, if_neg (by rw [hly]; simp)]
            have KY' := hid (KY.mono fun e w' h => h.atom_ hly)
            clear KY hly
            go_wp2_with first
              | (go_at_call 51; refine (must_true _).mono ?_; rintro e w2 ⟨rfl, hw⟩; subst w2)
              | (go_at_call 81; refine (KY'.out).mono ?_; rintro e w3 ⟨A8, c8, rfl, hc8, hr8, hb3⟩; have HR8 := hid hr8; have HB3 := hid (next_below HBV.out hb3); have B3 := B1.out.old hb3; clear hr8 hb3)
              | (refine wpList_store_row rfl 29 (.tmp 2) (.tmp 32) rfl w.heap.size #[.int .u8 5, .slice A8 (dataB y).length c8, .slice none 0 0, .int .u8 0, .bool false, .bool false, .slice none 0 0, .bool false, .bool false, .slice none 0 0] rfl rfl 29 #[.int .u8 0, .slice none 0 0, .slice none 0 0, .int .u8 0, .bool false, .bool false, .slice none 0 0, .bool false, .bool false, .slice none 0 0] B3 infoTag10 rfl (one10 _ _ _ _ _ _ _ _ _ _ _ _ _ _ _ _ _ _) ?_)
            exact bodyPost_ret (v := .agg #[.int .u8 5, .slice A8 (dataB y).length c8, .slice none 0 0, .int .u8 0, .bool false, .bool false, .slice none 0 0, .bool false, .bool false, .slice none 0 0]) (results_cell_row Tryz.results83 _ _ w.heap.size 29 #[.int .u8 5, .slice A8 (dataB y).length c8, .slice none 0 0, .int .u8 0, .bool false, .bool false, .slice none 0 0, .bool false, .bool false, .slice none 0 0] (0, 0) _ rfl (B3.row _) Tryz.underlying29 rfl infoTag10) rfl (.inr ⟨_, _, HE.out, rfl, TIn.tgV (tin_two (k := 5) (by omega) ((HR8.out.keep fun p hp => row_cell (by have hp : V.heap.size ≤ p.block := hp; omega)).more fun b hb => by have hb : V.heap.size ≤ b := hb; omega) ⟨hc8, hdy2⟩), below_row HB3.out (Nat.le_refl _) _⟩)
        · have HE : Hid (specP (x :: q) = none) := by
            show _ = _
            rw [HE1.out]
            rcases q with _ | ⟨y', _ | ⟨z, q⟩⟩
            · rfl
            · have := HQN.out; exact absurd (by simpa using this.symm) hm1
            · rfl
          have hmB : ((m : Int) == 1) = false := by rw [beq_eq_false_iff_ne]; omega
          clear hm1
          go_wp2_with (go_at_call 51; refine (must_false _).mono ?_; rintro e w2 ⟨he, hw⟩; have he2 : e = .panicked [{ v := .iface 35 (.int .i64 13), recovered := false }] := he; subst he2; subst w2)
          exact ⟨rfl, .inl ⟨HE.out, rfl, HBV.out⟩⟩
      have q2 : (D.toList == [112, 114, 101, 102, 105, 120]) = false := by rw [HDL.out, beq_eq_false_iff_ne]; exact c2
      by_cases c3 : dataB x = rangW
      · have q3 : (D.toList == [114, 97, 110, 103, 101]) = true := by rw [HDL.out, c3]; rfl
        have HE1 : Hid (specP (x :: q) = toR (rangP q)) := by show _ = _; rw [HE0.out, if_neg c1, if_neg c2, if_pos c3]
        have KA := pReadRange q V S A9 m cm HQ1.out HSV.out (fun y hy => (HKQ.out y hy).2.2.2.2) HT1.out
        obtain ⟨oa, hoa⟩ : ∃ a, a = rangP q := ⟨_, rfl⟩
        clear c1 c2 c3 HE0
        cases oa with
        | none =>
          have HE : Hid (specP (x :: q) = none) := by show _ = _; rw [HE1.out, ← hoa]; rfl
          have KA' := hid (KA.mono fun e w' h => h.none_ hoa.symm)
          clear KA hoa
          go_wp2_with (go_at_call 95; refine (KA'.out).mono ?_; rintro e w3 ⟨rfl, hb3⟩)
          exact ⟨rfl, .inl ⟨HE.out, rfl, next_below HBV.out hb3⟩⟩
        | some rg =>
          obtain ⟨o, ⟨i1, p1, l1⟩, ⟨i2, p2, l2⟩⟩ := rg
          have HE : Hid (specP (x :: q) = some (.mk 6 [] ⟨o, ⟨i1, p1, l1⟩, ⟨i2, p2, l2⟩⟩ [])) := by show _ = _; rw [HE1.out, ← hoa]; rfl
          have KA' := hid (KA.mono fun e w' h => h.some_ hoa.symm)
          clear KA hoa
          go_wp2_with first
            | (go_at_call 95; refine (KA'.out).mono ?_; rintro e w3 ⟨A7, n7, c7, A8, n8, c8, rfl, ho8, hr7, hc7, hn7, hr8, hc8, hn8, hb3⟩; have HR7 := hid hr7; have HR8 := hid hr8; have HO8 := hid ho8; have HB3 := hid (next_below HBV.out hb3); have B3 := B1.out.old hb3; clear hr7 hr8 hb3 ho8)
            | (refine wpList_store_row rfl 29 (.tmp 2) (.tmp 37) rfl w.heap.size #[.int .u8 6, .slice none 0 0, .slice none 0 0, .int .u8 o, .bool i1, .bool p1, .slice A7 n7 c7, .bool i2, .bool p2, .slice A8 n8 c8] rfl rfl 29 #[.int .u8 0, .slice none 0 0, .slice none 0 0, .int .u8 0, .bool false, .bool false, .slice none 0 0, .bool false, .bool false, .slice none 0 0] B3 infoTag10 rfl (one10 _ _ _ _ _ _ _ _ _ _ _ _ _ _ _ _ _ _) ?_)
          exact bodyPost_ret (v := .agg #[.int .u8 6, .slice none 0 0, .slice none 0 0, .int .u8 o, .bool i1, .bool p1, .slice A7 n7 c7, .bool i2, .bool p2, .slice A8 n8 c8]) (results_cell_row Tryz.results83 _ _ w.heap.size 29 #[.int .u8 6, .slice none 0 0, .slice none 0 0, .int .u8 o, .bool i1, .bool p1, .slice A7 n7 c7, .bool i2, .bool p2, .slice A8 n8 c8] (0, 0) _ rfl (B3.row _) Tryz.underlying29 rfl infoTag10) rfl (.inr ⟨_, _, HE.out, rfl, TIn.tgV (.mk (k := 6) (r := ⟨o, ⟨i1, p1, l1⟩, ⟨i2, p2, l2⟩⟩) (xs := []) ⟨by omega, HO8.out⟩ RIn.none_ ⟨Nat.le_refl _, by omega⟩ ((HR7.out.keep fun p hp => row_cell (by have hp : V.heap.size ≤ p.block := hp; omega)).more fun b hb => by have hb : V.heap.size ≤ b := hb; omega) ⟨hc7, hn7⟩ ((HR8.out.keep fun p hp => row_cell (by have hp : V.heap.size ≤ p.block := hp; omega)).more fun b hb => by have hb : V.heap.size ≤ b := hb; omega) ⟨hc8, hn8⟩ RIn.none_ ⟨Nat.le_refl _, by omega⟩ rfl (fun i t h => by simp at h)), below_row HB3.out (Nat.le_refl _) _⟩)
      · have q3 : (D.toList == [114, 97, 110, 103, 101]) = false := by rw [HDL.out, beq_eq_false_iff_ne]; exact c3
        have HE : Hid (specP (x :: q) = none) := by show _ = _; rw [HE0.out, if_neg c1, if_neg c2, if_neg c3]
        clear c1 c2 c3 HE0
        go_wp2_with fail
        exact ⟨rfl, .inl ⟨HE.out, rfl, HBV.out⟩⟩
end Go.Proofs.YtinlonpcakkfhaaGreatDoor
end
section
set_option maxRecDepth 100000
namespace Go.Proofs.YtinlonpcakkfhaaGreatDoor
open Go Go.Proofs Go.RowKit Sx _root_.Ord11 Go.Proofs.YtinlonpcakkfhaaGreatDoor.Ord11 _root_.Tag12 Sch
set_option maxHeartbeats 8000000 in
theorem pRead_any (t : SX) : ReadSpec t := by
  induction t using SX.ind with
  | H l h hi da ks ih =>
    intro w S cs hs hS hb hnn hcl hfm ht
    obtain ⟨_, _, _, _, _, A1, n1, c1, A2, n2, c2, A3, n3, c3, e, rfl⟩ := hs.form_
    cases e
    obtain ⟨w0, hw0⟩ : ∃ w0, w0 = ((w.alloc (.cells #[.bool l, .bool h, .slice A1 n1 c1, .slice A2 n2 c2, .slice A3 n3 c3] 34)).alloc (.cells #[.int .u8 0, .slice none 0 0, .slice none 0 0, .int .u8 0, .bool false, .bool false, .slice none 0 0, .bool false, .bool false, .slice none 0 0] 29)) := ⟨_, rfl⟩
    have HB0 : Hid (Below w.heap.size w w0) := by
      show Below _ _ _
      rw [hw0]
      exact ((Below.refl w.heap.size w).alloc (Nat.le_refl _) _).alloc (by simp; try omega) _
    have B0 : Blk w0 w.heap.size 34 #[.bool l, .bool h, .slice A1 n1 c1, .slice A2 n2 c2, .slice A3 n3 c3] := by
      rw [hw0]
      exact (Blk.new w 34 #[.bool l, .bool h, .slice A1 n1 c1, .slice A2 n2 c2, .slice A3 n3 c3]).alloc (.cells #[.int .u8 0, .slice none 0 0, .slice none 0 0, .int .u8 0, .bool false, .bool false, .slice none 0 0, .bool false, .bool false, .slice none 0 0] 29)
    have X0 : Hid (∀ W, Below w0.heap.size w0 W → ∀ kx u, (#[.bool l, .bool h, .slice A1 n1 c1, .slice A2 n2 c2, .slice A3 n3 c3] : Array Value)[kx]? = some u → W.cell? ⟨w.heap.size, kx, none⟩ = some u) := fun W hW kx u hk => cell_below hW ((B0.cell kx).trans hk) B0.lt
    have B1 : Blk w0 (w.heap.size + 1) 29 #[.int .u8 0, .slice none 0 0, .slice none 0 0, .int .u8 0, .bool false, .bool false, .slice none 0 0, .bool false, .bool false, .slice none 0 0] := by
      rw [hw0]
      have h := Blk.new (w.alloc (.cells #[.bool l, .bool h, .slice A1 n1 c1, .slice A2 n2 c2, .slice A3 n3 c3] 34)) 29 #[.int .u8 0, .slice none 0 0, .slice none 0 0, .int .u8 0, .bool false, .bool false, .slice none 0 0, .bool false, .bool false, .slice none 0 0]
      simpa using h
    have X1 : Hid (∀ W, Below w0.heap.size w0 W → ∀ kx u, (#[.int .u8 0, .slice none 0 0, .slice none 0 0, .int .u8 0, .bool false, .bool false, .slice none 0 0, .bool false, .bool false, .slice none 0 0] : Array Value)[kx]? = some u → W.cell? ⟨(w.heap.size + 1), kx, none⟩ = some u) := fun W hW kx u hk => cell_below hW ((B1.cell kx).trans hk) B1.lt
    have HR : Below w0.heap.size w0 w0 := Below.refl _ _
    have hz0 : w0.heap.size = w.heap.size + 2 := by rw [hw0]; simp
    have HBW0 := HB0.out
    have B1 := hid B1
    have HKID : Hid (∀ x ∈ ks, KidOk x) := by
      intro x hx
      have q1 := nodes_kids hnn
      have q2 := mem_le hx
      have q3 := (clean_parts hcl).1
      have q4 := form_kids hcl
      have q5 := dlen_form (q2.1 q3)
      exact ⟨(bare_hint hb).2 x hx, by omega, q2.1 q3, by omega, by omega⟩
    have HNK : Hid (ks.length ≤ 1099511627776) := (nodes_kids hnn).2
    have HIH := hid ih
    have hs0 := hs.old HBW0
    have HS0 := hid hs0
    have HT0 := hid (ht.old HBW0)
    have HSS : Hid (∀ b, S b → b < w0.heap.size) := fun b hb => by have := hS b hb; omega
    have hh : Hid (h = false) := (bare_hint hb).1
    have KA := pReadAtom (.mk l h hi da ks) w0 S _ hs0
    have hda : da.length ≤ 140737488355328 := by
      obtain ⟨_, _, _, _, _, e2, _, _, _, _, e6, _⟩ := hs0.inv
      omega
    have HBK := hid (bare_hint hb).2
    clear hs hS hb hnn hcl hfm ht ih hs0 B0
    go_enter Tryz.func60, Tryz.ntmps60
    go_upto_region 1 with fail
    rw [← hw0]
    clear hw0
    have x0_0 := X0.out _ HR 0 _ rfl
    have x0_1 := X0.out _ HR 1 _ rfl
    have x0_2 := X0.out _ HR 2 _ rfl
    have x0_3 := X0.out _ HR 3 _ rfl
    have x0_4 := X0.out _ HR 4 _ rfl
    have x1_0 := X1.out _ HR 0 _ rfl
    have x1_1 := X1.out _ HR 1 _ rfl
    have x1_2 := X1.out _ HR 2 _ rfl
    have x1_3 := X1.out _ HR 3 _ rfl
    have x1_4 := X1.out _ HR 4 _ rfl
    have x1_5 := X1.out _ HR 5 _ rfl
    have x1_6 := X1.out _ HR 6 _ rfl
    have x1_7 := X1.out _ HR 7 _ rfl
    have x1_8 := X1.out _ HR 8 _ rfl
    have x1_9 := X1.out _ HR 9 _ rfl
    cases l with
    | false =>
      have HE : Hid (getT ordC (.mk false h hi da ks) = some (.mk 2 da zeroR [])) := by show _ = _; rw [hh.out, getT]; rfl
      have KA' := hid (KA.mono fun e w' h => h.atom_ rfl)
      clear KA
      go_wp2_with first
        | (go_at_call 81; refine (KA'.out).mono ?_; rintro e w3 ⟨A8, c8, rfl, hc8, hr8, hb3⟩; have HR8 := hid hr8; have HC8 := hid hc8; have HB3 := hid (next_below HBW0 hb3); have B3 := B1.out.old hb3; clear hr8 hb3 hc8)
        | (refine wpList_store_row rfl 29 (.tmp 2) (.tmp 8) rfl (w.heap.size + 1) #[.int .u8 2, .slice A8 da.length c8, .slice none 0 0, .int .u8 0, .bool false, .bool false, .slice none 0 0, .bool false, .bool false, .slice none 0 0] rfl rfl 29 #[.int .u8 0, .slice none 0 0, .slice none 0 0, .int .u8 0, .bool false, .bool false, .slice none 0 0, .bool false, .bool false, .slice none 0 0] B3 infoTag10 rfl (one10 _ _ _ _ _ _ _ _ _ _ _ _ _ _ _ _ _ _) ?_)
      exact bodyPost_ret (v := .agg #[.int .u8 2, .slice A8 da.length c8, .slice none 0 0, .int .u8 0, .bool false, .bool false, .slice none 0 0, .bool false, .bool false, .slice none 0 0]) (results_cell_row Tryz.results60 _ _ (w.heap.size + 1) 29 #[.int .u8 2, .slice A8 da.length c8, .slice none 0 0, .int .u8 0, .bool false, .bool false, .slice none 0 0, .bool false, .bool false, .slice none 0 0] (0, 0) _ rfl (B3.row _) Tryz.underlying29 rfl infoTag10) rfl (.inr ⟨_, _, HE.out, rfl, TIn.tgV (tin_two (k := 2) (d := da) (by omega) ((HR8.out.keep fun p hp => row_cell (by have hp : w0.heap.size ≤ p.block := hp; omega)).more fun b hb => by have hb : w0.heap.size ≤ b := hb; omega) ⟨HC8.out, hda⟩), below_row HB3.out (by omega) _⟩)
    | true =>
      have KS := hid (pSpecial_any (.mk true h hi da ks) w0 S _ HS0.out)
      obtain ⟨sp, hsp⟩ : ∃ b, b = specL ks := ⟨_, rfl⟩
      have hspB : specB (.mk true h hi da ks) = sp := hsp.symm
      rw [hspB] at KS
      clear KA hspB
      cases sp with
      | false =>
        have HE1 : Hid (getT ordC (.mk true h hi da ks) = (getsT ordC ks).map (fun l => .mk 3 [] zeroR l)) := plain_bare HBK.out hsp.symm
        clear hsp
        go_upto_region 4 with (go_at_call 41; refine (KS.out).mono ?_; rintro e w1 ⟨rfl, hb1⟩; have x0_0 := X0.out _ hb1 0 _ rfl; have x0_1 := X0.out _ hb1 1 _ rfl; have x0_2 := X0.out _ hb1 2 _ rfl; have x0_3 := X0.out _ hb1 3 _ rfl; have x0_4 := X0.out _ hb1 4 _ rfl)
        have B2 := hid (B1.out.old hb1)
        have HB1 := hid (next_below HBW0 hb1)
        have hz1 : w0.heap.size ≤ w1.heap.size := hb1.size
        have KAll := pReadAll ks HIH.out A3 n3 c3 w1 S (HS0.out.old hb1).rowS (fun b hb => by have := HSS.out b hb; omega) HKID.out HNK.out (HT0.out.old hb1)
        obtain ⟨oa, hoa⟩ : ∃ a, a = getsT ordC ks := ⟨_, rfl⟩
        clear hb1 B1
        cases oa with
        | none =>
          have HE : Hid (getT ordC (.mk true h hi da ks) = none) := by show _ = _; rw [HE1.out, ← hoa]; rfl
          have KA' := hid (KAll.mono fun e w' h => h.none_ hoa.symm)
          clear KAll hoa
          go_wp2_with (go_at_call 82; refine (KA'.out).mono ?_; rintro e w3 ⟨rfl, hb3⟩)
          exact ⟨rfl, .inl ⟨HE.out, rfl, next_below HB1.out hb3⟩⟩
        | some ts =>
          have HE : Hid (getT ordC (.mk true h hi da ks) = some (.mk 3 [] zeroR ts)) := by show _ = _; rw [HE1.out, ← hoa]; rfl
          have hlts : ts.length ≤ 1099511627776 := by rw [getsT_len ordC hoa.symm]; exact HNK.out
          have KA' := hid (KAll.mono fun e w' h => h.some_ hoa.symm)
          clear KAll hoa
          go_wp2_with first
            | (go_at_call 82; refine (KA'.out).mono ?_; rintro e w3 ⟨vv, rfl, hto, hb3⟩; obtain ⟨A8, n8, c8, rfl, htin⟩ := hto.tin (S0 := fun b => w1.heap.size ≤ b) (k := 3) (by omega) hlts (fun b hb => hb.elim (fun h => h.elim) id); have HTN := hid htin; have HB3 := hid (next_below HB1.out hb3); have B3 := B2.out.old hb3; clear hto htin hb3)
            | (refine wpList_store_row rfl 29 (.tmp 2) (.tmp 15) rfl (w.heap.size + 1) #[.int .u8 3, .slice none 0 0, .slice A8 n8 c8, .int .u8 0, .bool false, .bool false, .slice none 0 0, .bool false, .bool false, .slice none 0 0] rfl rfl 29 #[.int .u8 0, .slice none 0 0, .slice none 0 0, .int .u8 0, .bool false, .bool false, .slice none 0 0, .bool false, .bool false, .slice none 0 0] B3 infoTag10 rfl (one10 _ _ _ _ _ _ _ _ _ _ _ _ _ _ _ _ _ _) ?_)
          exact bodyPost_ret (v := .agg #[.int .u8 3, .slice none 0 0, .slice A8 n8 c8, .int .u8 0, .bool false, .bool false, .slice none 0 0, .bool false, .bool false, .slice none 0 0]) (results_cell_row Tryz.results60 _ _ (w.heap.size + 1) 29 #[.int .u8 3, .slice none 0 0, .slice A8 n8 c8, .int .u8 0, .bool false, .bool false, .slice none 0 0, .bool false, .bool false, .slice none 0 0] (0, 0) _ rfl (B3.row _) Tryz.underlying29 rfl infoTag10) rfl (.inr ⟨_, _, HE.out, rfl, TIn.tgV ((HTN.out.keep fun p hp => row_cell (by have hp : w1.heap.size ≤ p.block := hp; omega)).more fun b hb => by have hb : w1.heap.size ≤ b := hb; omega), below_row HB3.out (by omega) _⟩)
      | true =>
        obtain ⟨x, q, rfl⟩ : ∃ x q, ks = x :: q := by
          rcases ks with _ | ⟨x, q⟩
          · cases hsp
          · exact ⟨x, q, rfl⟩
        have HE1 : Hid (getT ordC (.mk true h hi da (x :: q)) = specP q) := spec_bare HBK.out hsp.symm
        clear hsp
        go_upto_region 5 with (go_at_call 41; refine (KS.out).mono ?_; rintro e w1 ⟨rfl, hb1⟩; have x0_0 := X0.out _ hb1 0 _ rfl; have x0_1 := X0.out _ hb1 1 _ rfl; have x0_2 := X0.out _ hb1 2 _ rfl; have x0_3 := X0.out _ hb1 3 _ rfl; have x0_4 := X0.out _ hb1 4 _ rfl)
        have B2 := hid (B1.out.old hb1)
        have HB1 := hid (next_below HBW0 hb1)
        have hz1 : w0.heap.size ≤ w1.heap.size := hb1.size
        have HRS := (HS0.out.old hb1).rowS
        obtain ⟨hl3, hc3, hm3⟩ := HRS.len
        have h3P : 1 ≤ n3 := by rw [← hl3]; simp
        have h3I : (1 : Int) ≤ (n3 : Int) := by omega
        obtain ⟨ad, rfl⟩ : ∃ ad, A3 = some ad := by
          obtain ⟨ad, _, _, _, _, _, _, e, _⟩ := HRS.at_ (k := 0) (by omega)
          exact ⟨ad, e⟩
        obtain ⟨A9, hA9⟩ : ∃ A9, (if c3 = 1 then some ad else some (⟨ad.block, ad.off + 5, none⟩ : Addr)) = A9 := ⟨_, rfl⟩
        have hR9 : RowS w1 S q A9 (n3 - 1) (c3 - 1) := by
          have h := HRS.drop (k := 1) (by omega)
          rw [← hA9]
          exact h
        have KSp := hid (pReadSpecial q (fun y hy => HIH.out y (by simp [hy])) A9 (n3 - 1) (c3 - 1) w1 S hR9 (fun b hb => by have := HSS.out b hb; omega) (fun y hy => HKID.out y (by simp [hy])) (by have := HNK.out; simp at this; omega) (HT0.out.old hb1))
        have HA9 := hid hA9
        clear hb1 B1 HRS hR9 hl3 hA9
        obtain ⟨oa, hoa⟩ : ∃ a, a = specP q := ⟨_, rfl⟩
        cases oa with
        | none =>
          have HE : Hid (getT ordC (.mk true h hi da (x :: q)) = none) := by show _ = _; rw [HE1.out, ← hoa]
          have KA' := hid (KSp.out.mono fun e w' h => h.none_ hoa.symm)
          rw [← HA9.out] at KA'
          clear KSp hoa
          go_wp2_with (go_at_call 83; refine (KA'.out).mono ?_; rintro e w3 ⟨rfl, hb3⟩)
          all_goals exact ⟨rfl, .inl ⟨HE.out, rfl, next_below HB1.out hb3⟩⟩
        | some t =>
          have HE : Hid (getT ordC (.mk true h hi da (x :: q)) = some t) := by show _ = _; rw [HE1.out, ← hoa]
          have KA' := hid (KSp.out.mono fun e w' h => h.some_ hoa.symm)
          rw [← HA9.out] at KA'
          clear KSp hoa
          go_wp2_with first
            | (go_at_call 83; refine (KA'.out).mono ?_; rintro e w3 ⟨k, o, i1, p1, i2, p2, A4, n4, c4, A5, n5, c5, A6, n6, c6, A7, n7, c7, rfl, htin, hb3⟩; have HTN := hid htin; have HB3 := hid (next_below HB1.out hb3); have B3 := B2.out.old hb3; clear htin hb3)
            | (refine wpList_store_row rfl 29 (.tmp 2) (.tmp 19) rfl (w.heap.size + 1) #[.int .u8 k, .slice A4 n4 c4, .slice A5 n5 c5, .int .u8 o, .bool i1, .bool p1, .slice A6 n6 c6, .bool i2, .bool p2, .slice A7 n7 c7] rfl rfl 29 #[.int .u8 0, .slice none 0 0, .slice none 0 0, .int .u8 0, .bool false, .bool false, .slice none 0 0, .bool false, .bool false, .slice none 0 0] B3 infoTag10 rfl (one10 _ _ _ _ _ _ _ _ _ _ _ _ _ _ _ _ _ _) ?_)
          all_goals exact bodyPost_ret (v := .agg #[.int .u8 k, .slice A4 n4 c4, .slice A5 n5 c5, .int .u8 o, .bool i1, .bool p1, .slice A6 n6 c6, .bool i2, .bool p2, .slice A7 n7 c7]) (results_cell_row Tryz.results60 _ _ (w.heap.size + 1) 29 #[.int .u8 k, .slice A4 n4 c4, .slice A5 n5 c5, .int .u8 o, .bool i1, .bool p1, .slice A6 n6 c6, .bool i2, .bool p2, .slice A7 n7 c7] (0, 0) _ rfl (B3.row _) Tryz.underlying29 rfl infoTag10) rfl (.inr ⟨_, _, HE.out, rfl, TIn.tgV ((HTN.out.keep fun p hp => row_cell (by have hp : w1.heap.size ≤ p.block := hp; omega)).more fun b hb => by have hb : w1.heap.size ≤ b := hb; omega), below_row HB3.out (by omega) _⟩)
end Go.Proofs.YtinlonpcakkfhaaGreatDoor
end
section
set_option maxRecDepth 100000
namespace Go.Proofs.YtinlonpcakkfhaaGreatDoor
open Go Go.Proofs Go.RowKit Sx _root_.Ord11 Go.Proofs.YtinlonpcakkfhaaGreatDoor.Ord11 _root_.Tag12 Sch
set_option maxHeartbeats 8000000 in
theorem pTagOf_any (t : SX) (w : World) (S : Nat → Prop) (cs : List Value) (hs : SIn w S t cs) (ht : Tab w) (hto : OrdT w) :
    Calls Tryz.prog 31 #[.agg cs.toArray] w (ReadE w (getA t)) := by
  obtain ⟨l, h, hi, da, ks, A1, n1, c1, A2, n2, c2, A3, n3, c3, eT, rfl⟩ := hs.form_
  obtain ⟨w0, hw0⟩ : ∃ w0, w0 = ((w.alloc (.cells #[.bool l, .bool h, .slice A1 n1 c1, .slice A2 n2 c2, .slice A3 n3 c3] 34)).alloc (.cells #[.int .u8 0, .slice none 0 0, .slice none 0 0, .int .u8 0, .bool false, .bool false, .slice none 0 0, .bool false, .bool false, .slice none 0 0] 29)) := ⟨_, rfl⟩
  have HB0 : Hid (Below w.heap.size w w0) := by
    show Below _ _ _
    rw [hw0]
    exact ((Below.refl w.heap.size w).alloc (Nat.le_refl _) _).alloc (by simp; try omega) _
  have B0 : Blk w0 w.heap.size 34 #[.bool l, .bool h, .slice A1 n1 c1, .slice A2 n2 c2, .slice A3 n3 c3] := by
    rw [hw0]
    exact (Blk.new w 34 #[.bool l, .bool h, .slice A1 n1 c1, .slice A2 n2 c2, .slice A3 n3 c3]).alloc (.cells #[.int .u8 0, .slice none 0 0, .slice none 0 0, .int .u8 0, .bool false, .bool false, .slice none 0 0, .bool false, .bool false, .slice none 0 0] 29)
  have X0 : Hid (∀ W, Below w0.heap.size w0 W → ∀ kx u, (#[.bool l, .bool h, .slice A1 n1 c1, .slice A2 n2 c2, .slice A3 n3 c3] : Array Value)[kx]? = some u → W.cell? ⟨w.heap.size, kx, none⟩ = some u) := fun W hW kx u hk => cell_below hW ((B0.cell kx).trans hk) B0.lt
  have B1 : Blk w0 (w.heap.size + 1) 29 #[.int .u8 0, .slice none 0 0, .slice none 0 0, .int .u8 0, .bool false, .bool false, .slice none 0 0, .bool false, .bool false, .slice none 0 0] := by
    rw [hw0]
    have h := Blk.new (w.alloc (.cells #[.bool l, .bool h, .slice A1 n1 c1, .slice A2 n2 c2, .slice A3 n3 c3] 34)) 29 #[.int .u8 0, .slice none 0 0, .slice none 0 0, .int .u8 0, .bool false, .bool false, .slice none 0 0, .bool false, .bool false, .slice none 0 0]
    simpa using h
  have X1 : Hid (∀ W, Below w0.heap.size w0 W → ∀ kx u, (#[.int .u8 0, .slice none 0 0, .slice none 0 0, .int .u8 0, .bool false, .bool false, .slice none 0 0, .bool false, .bool false, .slice none 0 0] : Array Value)[kx]? = some u → W.cell? ⟨(w.heap.size + 1), kx, none⟩ = some u) := fun W hW kx u hk => cell_below hW ((B1.cell kx).trans hk) B1.lt
  have HR : Below w0.heap.size w0 w0 := Below.refl _ _
  have hz0 : w0.heap.size = w.heap.size + 2 := by rw [hw0]; simp
  have HBW0 := HB0.out
  have B1 := hid B1
  have HS0 : Hid (∀ W, Below w.heap.size w W → SIn W (fun b => S b ∧ b < w.heap.size) t [.bool l, .bool h, .slice A1 n1 c1, .slice A2 n2 c2, .slice A3 n3 c3]) := fun W hW => hs.size_.old hW
  have HT : Hid (∀ W, Below w.heap.size w W → Tab W ∧ OrdT W) := fun W hW => ⟨ht.old hW, hto.old hW⟩
  have KM := may_any t w0 _ _ (HS0.out w0 HBW0) (HT.out w0 HBW0).1
  have KS : Hid (∀ W, Below w0.heap.size w0 W → Calls Tryz.prog 39 #[.agg #[.bool l, .bool h, .slice A1 n1 c1, .slice A2 n2 c2, .slice A3 n3 c3], .func (.func 59) #[] #[]] W fun e w' => e = .returned (.bool (someX hintB t)) ∧ Below W.heap.size W w') := fun W hW => some_hint hintB pHint_any t W _ _ (HS0.out W (next_below HBW0 hW))
  obtain ⟨m, hm⟩ : ∃ b, b = may t := ⟨_, rfl⟩
  obtain ⟨sb, hsb⟩ : ∃ b, b = someX hintB t := ⟨_, rfl⟩
  rw [← hm] at KM
  rw [← hsb] at KS
  have KM := hid KM
  have HGA : Hid (getA t = if m = true then getT ordC t else none) := by show _ = _; rw [hm]; rfl
  have HMM := hid hm
  have HSB := hid hsb
  clear hs ht hto eT hm hsb B0
  go_enter Tryz.func31, Tryz.ntmps31
  go_upto_region 1 with fail
  rw [← hw0]
  clear hw0
  have x0_0 := X0.out _ HR 0 _ rfl
  have x0_1 := X0.out _ HR 1 _ rfl
  have x0_2 := X0.out _ HR 2 _ rfl
  have x0_3 := X0.out _ HR 3 _ rfl
  have x0_4 := X0.out _ HR 4 _ rfl
  have x1_0 := X1.out _ HR 0 _ rfl
  have x1_1 := X1.out _ HR 1 _ rfl
  have x1_2 := X1.out _ HR 2 _ rfl
  have x1_3 := X1.out _ HR 3 _ rfl
  have x1_4 := X1.out _ HR 4 _ rfl
  have x1_5 := X1.out _ HR 5 _ rfl
  have x1_6 := X1.out _ HR 6 _ rfl
  have x1_7 := X1.out _ HR 7 _ rfl
  have x1_8 := X1.out _ HR 8 _ rfl
  have x1_9 := X1.out _ HR 9 _ rfl
  cases m with
  | false =>
    have HE : Hid (getA t = none) := by show _ = _; rw [HGA.out, if_neg (by simp)]
    go_wp2_with first
      | (go_at_call 38; refine (KM.out).mono ?_; rintro e w1 ⟨rfl, hb1⟩)
      | (go_at_call 51; refine (must_false _).mono ?_; rintro e w2 ⟨he, hw⟩; have he2 : e = .panicked [{ v := .iface 35 (.int .i64 13), recovered := false }] := he; subst he2; subst w2)
    exact ⟨rfl, .inl ⟨HE.out, rfl, next_below HBW0 hb1⟩⟩
  | true =>
    have HGT : Hid (getA t = getT ordC t) := by show _ = _; rw [HGA.out, if_pos rfl]
    obtain ⟨hsm, hcl⟩ := may_small HMM.out.symm
    cases sb with
    | true =>
      have HE : Hid (getA t = none) := by show _ = _; rw [HGT.out, get_bare hcl HSB.out.symm]
      clear hcl hsm
      go_wp2_with first
        | (go_at_call 38; refine (KM.out).mono ?_; rintro e w1 ⟨rfl, hb1⟩; have x0_0 := X0.out _ hb1 0 _ rfl; have x0_1 := X0.out _ hb1 1 _ rfl; have x0_2 := X0.out _ hb1 2 _ rfl; have x0_3 := X0.out _ hb1 3 _ rfl; have x0_4 := X0.out _ hb1 4 _ rfl)
        | (go_at_call 39; refine (KS.out _ hb1).mono ?_; rintro e w3 ⟨rfl, hb3⟩)
        | (go_at_call 51; refine (must_false _).mono ?_; rintro e w2 ⟨he, hw⟩; have he2 : e = .panicked [{ v := .iface 35 (.int .i64 13), recovered := false }] := he; subst he2; subst w2)
      exact ⟨rfl, .inl ⟨HE.out, rfl, next_below HBW0 (next_below hb1 hb3)⟩⟩
    | false =>
      have hbare : bare t := HSB.out.symm
      have KR : Hid (∀ W, Below w0.heap.size w0 W → Calls Tryz.prog 60 #[.agg #[.bool l, .bool h, .slice A1 n1 c1, .slice A2 n2 c2, .slice A3 n3 c3]] W (ReadE W (getT ordC t))) := fun W hW => pRead_any t W _ _ (HS0.out W (next_below HBW0 hW)) (fun b hb => by have := hb.2; have := hW.size; omega) hbare hsm.1 hcl hsm.2 (HT.out W (next_below HBW0 hW)).2
      clear hcl hsm hbare
      go_upto_region 2 with first
        | (go_at_call 38; refine (KM.out).mono ?_; rintro e w1 ⟨rfl, hb1⟩; have x0_0 := X0.out _ hb1 0 _ rfl; have x0_1 := X0.out _ hb1 1 _ rfl; have x0_2 := X0.out _ hb1 2 _ rfl; have x0_3 := X0.out _ hb1 3 _ rfl; have x0_4 := X0.out _ hb1 4 _ rfl)
        | (go_at_call 39; refine (KS.out _ hb1).mono ?_; rintro e w3 ⟨rfl, hb3⟩; have hb13 := next_below hb1 hb3; have x0_0 := X0.out _ hb13 0 _ rfl; have x0_1 := X0.out _ hb13 1 _ rfl; have x0_2 := X0.out _ hb13 2 _ rfl; have x0_3 := X0.out _ hb13 3 _ rfl; have x0_4 := X0.out _ hb13 4 _ rfl)
        | (go_at_call 51; refine (must_true _).mono ?_; rintro e w2 ⟨rfl, hw⟩; subst w2)
      have KR2 := KR.out _ hb13
      have B2 := hid (B1.out.old hb13)
      have HB2 := hid (next_below HBW0 hb13)
      have hz3 : w0.heap.size ≤ w3.heap.size := hb13.size
      obtain ⟨oa, hoa⟩ : ∃ a, a = getT ordC t := ⟨_, rfl⟩
      clear hb1 hb3 hb13 KM KS KR B1
      cases oa with
      | none =>
        have HE : Hid (getA t = none) := by show _ = _; rw [HGT.out, ← hoa]
        have KA' := hid (KR2.mono fun e w' h => h.none_ hoa.symm)
        clear KR2 hoa
        go_wp2_with (go_at_call 60; refine (KA'.out).mono ?_; rintro e w4 ⟨rfl, hb4⟩)
        exact ⟨rfl, .inl ⟨HE.out, rfl, next_below HB2.out hb4⟩⟩
      | some tt =>
        have HE : Hid (getA t = some tt) := by show _ = _; rw [HGT.out, ← hoa]
        have KA' := hid (KR2.mono fun e w' h => h.some_ hoa.symm)
        clear KR2 hoa
        go_wp2_with first
          | (go_at_call 60; refine (KA'.out).mono ?_; rintro e w4 ⟨k, o, i1, p1, i2, p2, A4, n4, c4, A5, n5, c5, A6, n6, c6, A7, n7, c7, rfl, htin, hb4⟩; have HTN := hid htin; have HB3 := hid (next_below HB2.out hb4); have B3 := B2.out.old hb4; clear htin hb4)
          | (refine wpList_store_row rfl 29 (.tmp 2) (.tmp 12) rfl (w.heap.size + 1) #[.int .u8 k, .slice A4 n4 c4, .slice A5 n5 c5, .int .u8 o, .bool i1, .bool p1, .slice A6 n6 c6, .bool i2, .bool p2, .slice A7 n7 c7] rfl rfl 29 #[.int .u8 0, .slice none 0 0, .slice none 0 0, .int .u8 0, .bool false, .bool false, .slice none 0 0, .bool false, .bool false, .slice none 0 0] B3 infoTag10 rfl (one10 _ _ _ _ _ _ _ _ _ _ _ _ _ _ _ _ _ _) ?_)
        exact bodyPost_ret (v := .agg #[.int .u8 k, .slice A4 n4 c4, .slice A5 n5 c5, .int .u8 o, .bool i1, .bool p1, .slice A6 n6 c6, .bool i2, .bool p2, .slice A7 n7 c7]) (results_cell_row Tryz.results31 _ _ (w.heap.size + 1) 29 #[.int .u8 k, .slice A4 n4 c4, .slice A5 n5 c5, .int .u8 o, .bool i1, .bool p1, .slice A6 n6 c6, .bool i2, .bool p2, .slice A7 n7 c7] (0, 0) _ rfl (B3.row _) Tryz.underlying29 rfl infoTag10) rfl (.inr ⟨_, _, HE.out, rfl, TIn.tgV ((HTN.out.keep fun p hp => row_cell (by have hp : w3.heap.size ≤ p.block := hp; omega)).more fun b hb => by have hb : w3.heap.size ≤ b := hb; omega), below_row HB3.out (by omega) _⟩)
set_option maxHeartbeats 16000000 in
theorem pCaughtS (t : SX) (w : World) (S : Nat → Prop) (cs : List Value) (hs : SIn w S t cs) (ht : Tab w) (hto : OrdT w) :
    Calls Tryz.prog 30 #[.func (.func 31) #[] #[], .agg cs.toArray] w fun e w' => ∃ v0 v1 v2 v3 v4 v5 v6 v7 v8 v9, e = .returned (.tuple #[.agg #[v0, v1, v2, v3, v4, v5, v6, v7, v8, v9], .int .i64 (getR t).2]) ∧ TIn w' (fun b => w.heap.size ≤ b) (getR t).1 [v0, v1, v2, v3, v4, v5, v6, v7, v8, v9] ∧ Below w.heap.size w w' := by
  have hmf : ∀ (fn : Fn) (first cap : Array Value) (w : World), (Instr.makeFunc fn first cap).run Tryz.prog w = .ok (.func fn first cap) w := fun _ _ _ _ => rfl
  obtain ⟨l, h, hi, da, ks, A1, n1, c1, A2, n2, c2, A3, n3, c3, eT, rfl⟩ := hs.form_
  obtain ⟨w0, hw0⟩ : ∃ w0, w0 = (((w.alloc (.cells #[.bool l, .bool h, .slice A1 n1 c1, .slice A2 n2 c2, .slice A3 n3 c3] 34)).alloc (.cells #[.int .u8 0, .slice none 0 0, .slice none 0 0, .int .u8 0, .bool false, .bool false, .slice none 0 0, .bool false, .bool false, .slice none 0 0] 29)).alloc (.cells #[.int .i64 0] 35)) := ⟨_, rfl⟩
  have HB0 : Hid (Below w.heap.size w w0) := by
    show Below _ _ _
    rw [hw0]
    exact (((Below.refl w.heap.size w).alloc (Nat.le_refl _) _).alloc (by simp; try omega) _).alloc (by simp; try omega) _
  have B0 : Blk w0 w.heap.size 34 #[.bool l, .bool h, .slice A1 n1 c1, .slice A2 n2 c2, .slice A3 n3 c3] := by
    rw [hw0]
    exact ((Blk.new w 34 #[.bool l, .bool h, .slice A1 n1 c1, .slice A2 n2 c2, .slice A3 n3 c3]).alloc (.cells #[.int .u8 0, .slice none 0 0, .slice none 0 0, .int .u8 0, .bool false, .bool false, .slice none 0 0, .bool false, .bool false, .slice none 0 0] 29)).alloc (.cells #[.int .i64 0] 35)
  have X0 : Hid (∀ W, Below w0.heap.size w0 W → ∀ kx u, (#[.bool l, .bool h, .slice A1 n1 c1, .slice A2 n2 c2, .slice A3 n3 c3] : Array Value)[kx]? = some u → W.cell? ⟨w.heap.size, kx, none⟩ = some u) := fun W hW kx u hk => cell_below hW ((B0.cell kx).trans hk) B0.lt
  have B1 : Blk w0 (w.heap.size + 1) 29 #[.int .u8 0, .slice none 0 0, .slice none 0 0, .int .u8 0, .bool false, .bool false, .slice none 0 0, .bool false, .bool false, .slice none 0 0] := by
    rw [hw0]
    have h := (Blk.new (w.alloc (.cells #[.bool l, .bool h, .slice A1 n1 c1, .slice A2 n2 c2, .slice A3 n3 c3] 34)) 29 #[.int .u8 0, .slice none 0 0, .slice none 0 0, .int .u8 0, .bool false, .bool false, .slice none 0 0, .bool false, .bool false, .slice none 0 0]).alloc (.cells #[.int .i64 0] 35)
    simpa using h
  have X1 : Hid (∀ W, Below w0.heap.size w0 W → ∀ kx u, (#[.int .u8 0, .slice none 0 0, .slice none 0 0, .int .u8 0, .bool false, .bool false, .slice none 0 0, .bool false, .bool false, .slice none 0 0] : Array Value)[kx]? = some u → W.cell? ⟨(w.heap.size + 1), kx, none⟩ = some u) := fun W hW kx u hk => cell_below hW ((B1.cell kx).trans hk) B1.lt
  have B2 : Blk w0 (w.heap.size + 1 + 1) 35 #[.int .i64 0] := by
    rw [hw0]
    have h := Blk.new ((w.alloc (.cells #[.bool l, .bool h, .slice A1 n1 c1, .slice A2 n2 c2, .slice A3 n3 c3] 34)).alloc (.cells #[.int .u8 0, .slice none 0 0, .slice none 0 0, .int .u8 0, .bool false, .bool false, .slice none 0 0, .bool false, .bool false, .slice none 0 0] 29)) 35 #[.int .i64 0]
    simpa using h
  have X2 : Hid (∀ W, Below w0.heap.size w0 W → ∀ kx u, (#[.int .i64 0] : Array Value)[kx]? = some u → W.cell? ⟨(w.heap.size + 1 + 1), kx, none⟩ = some u) := fun W hW kx u hk => cell_below hW ((B2.cell kx).trans hk) B2.lt
  have HR : Below w0.heap.size w0 w0 := Below.refl _ _
  have hz0 : w0.heap.size = w.heap.size + 3 := by rw [hw0]; simp
  have KV := pTagOf_any t w0 S _ (hs.old HB0.out) (ht.old HB0.out) (hto.old HB0.out)
  have B0 := hid B0
  have B1 := hid B1
  have B2 := hid B2
  have x0_0 := B0.out.cell 0
  have x0_1 := B0.out.cell 1
  have x0_2 := B0.out.cell 2
  have x0_3 := B0.out.cell 3
  have x0_4 := B0.out.cell 4
  clear hs ht hto eT
  go_enter_defers Tryz.func30, Tryz.ntmps30
  go_upto_region 2 with fail
  rw [← hw0]
  clear hw0
  obtain ⟨mt, hmt⟩ : ∃ b, b = getA t := ⟨_, rfl⟩
  cases mt with
  | some tt =>
    have HP : Hid (getR t = (tt, 0)) := by show _ = _; unfold getR; rw [← hmt]; rfl
    have KV' := hid (KV.mono fun e w' h => h.some_ hmt.symm)
    clear KV hmt
    go_wp2_with first
      | (go_at_call 31; refine (KV'.out).mono ?_; rintro e w1 ⟨k, o, i1, p1, i2, p2, A4, n4, c4, A5, n5, c5, A6, n6, c6, A7, n7, c7, rfl, hin, hb1⟩; have BY := B1.out.old hb1; have BE := B2.out.old hb1; have HIN := hid hin; have HB1 := hid hb1; clear hin hb1)
      | (refine wpList_store_row rfl 29 (.tmp 4) (.tmp 9) rfl (w.heap.size + 1) #[.int .u8 k, .slice A4 n4 c4, .slice A5 n5 c5, .int .u8 o, .bool i1, .bool p1, .slice A6 n6 c6, .bool i2, .bool p2, .slice A7 n7 c7] rfl rfl 29 #[.int .u8 0, .slice none 0 0, .slice none 0 0, .int .u8 0, .bool false, .bool false, .slice none 0 0, .bool false, .bool false, .slice none 0 0] BY infoTag10 rfl (one10 _ _ _ _ _ _ _ _ _ _ _ _ _ _ _ _ _ _) ?_; have BE2 := BE.rowFar (g' := w.heap.size + 1) (by omega) #[.int .u8 k, .slice A4 n4 c4, .slice A5 n5 c5, .int .u8 o, .bool i1, .bool p1, .slice A6 n6 c6, .bool i2, .bool p2, .slice A7 n7 c7]; have ee0 := BE2.cell 0; have fz0 := BE2.frozen 0)
    have BR := (BY.row #[.int .u8 k, .slice A4 n4 c4, .slice A5 n5 c5, .int .u8 o, .bool i1, .bool p1, .slice A6 n6 c6, .bool i2, .bool p2, .slice A7 n7 c7]).far (p := ⟨w.heap.size + 1 + 1, 0, none⟩) (by show w.heap.size + 1 ≠ w.heap.size + 1 + 1; omega) (.int .i64 0)
    have BF := BE2.set_ 0 (.int .i64 0)
    have HFIN : Hid (TIn ((w1.setRow (w.heap.size + 1) #[.int .u8 k, .slice A4 n4 c4, .slice A5 n5 c5, .int .u8 o, .bool i1, .bool p1, .slice A6 n6 c6, .bool i2, .bool p2, .slice A7 n7 c7]).setCell ⟨w.heap.size + 1 + 1, 0, none⟩ (.int .i64 0)) (fun b => w.heap.size ≤ b) tt [.int .u8 k, .slice A4 n4 c4, .slice A5 n5 c5, .int .u8 o, .bool i1, .bool p1, .slice A6 n6 c6, .bool i2, .bool p2, .slice A7 n7 c7] ∧ Below w.heap.size w ((w1.setRow (w.heap.size + 1) #[.int .u8 k, .slice A4 n4 c4, .slice A5 n5 c5, .int .u8 o, .bool i1, .bool p1, .slice A6 n6 c6, .bool i2, .bool p2, .slice A7 n7 c7]).setCell ⟨w.heap.size + 1 + 1, 0, none⟩ (.int .i64 0))) :=
      ⟨(HIN.out.keep fun q hq => (World.cell?_setCell_other _ _ _ _ (fun e => by subst e; have hq : w0.heap.size ≤ w.heap.size + 1 + 1 := hq; omega)).trans (row_cell (by have hq : w0.heap.size ≤ q.block := hq; omega))).more fun b hb => by have hb : w0.heap.size ≤ b := hb; omega, (below_row (next_below HB0.out HB1.out) (by omega) _).setCell (by show w.heap.size ≤ w.heap.size + 1 + 1; omega) _⟩
    generalize (w1.setRow (w.heap.size + 1) #[.int .u8 k, .slice A4 n4 c4, .slice A5 n5 c5, .int .u8 o, .bool i1, .bool p1, .slice A6 n6 c6, .bool i2, .bool p2, .slice A7 n7 c7]).setCell ⟨w.heap.size + 1 + 1, 0, none⟩ (.int .i64 0) = WW at *
    have d0 := BR.cell 0
    have d1 := BR.cell 1
    have d2 := BR.cell 2
    have d3 := BR.cell 3
    have d4 := BR.cell 4
    have d5 := BR.cell 5
    have d6 := BR.cell 6
    have d7 := BR.cell 7
    have d8 := BR.cell 8
    have d9 := BR.cell 9
    have g0 := BF.cell 0
    refine leaves_cons (f := 58) (args := #[.pointer (some ⟨w.heap.size + 1 + 1, 0, none⟩)]) (by simp) (by simp [go_sem]) ?_
    refine (idle_st _ _).mono ?_
    rintro e u' w'' ⟨rfl, rfl, rfl⟩
    simp at d0 d1 d2 d3 d4 d5 d6 d7 d8 d9 g0
    simp [Leaves, settle, results, Tryz.results30, go_sem, d0, d1, d2, d3, d4, d5, d6, d7, d8, d9, g0]
    rw [HP.out]
    exact ⟨_, _, _, _, _, _, _, _, _, _, ⟨⟨rfl, rfl, rfl, rfl, rfl, rfl, rfl, rfl, rfl, rfl⟩, rfl⟩, HFIN.out⟩
  | none =>
    have HP : Hid (getR t = (zeroT, 13)) := by show _ = _; unfold getR; rw [← hmt]; rfl
    have KV' := hid (KV.mono fun e w' h => h.none_ hmt.symm)
    clear KV hmt
    go_wp2_with (go_at_call 31; refine (KV'.out).mono ?_; rintro e w1 ⟨rfl, hb1⟩)
    have BY := B1.out.old hb1
    have BE := B2.out.old hb1
    have BR := BY.far (p := ⟨w.heap.size + 1 + 1, 0, none⟩) (by show w.heap.size + 1 ≠ w.heap.size + 1 + 1; omega) (.int .i64 13)
    have BF := BE.set_ 0 (.int .i64 13)
    have HFIN := hid ((next_below HB0.out hb1).setCell (p := ⟨w.heap.size + 1 + 1, 0, none⟩) (by show w.heap.size ≤ w.heap.size + 1 + 1; omega) (.int .i64 13))
    have d0 := BR.cell 0
    have d1 := BR.cell 1
    have d2 := BR.cell 2
    have d3 := BR.cell 3
    have d4 := BR.cell 4
    have d5 := BR.cell 5
    have d6 := BR.cell 6
    have d7 := BR.cell 7
    have d8 := BR.cell 8
    have d9 := BR.cell 9
    have g0 := BF.cell 0
    refine leaves_cons (f := 58) (args := #[.pointer (some ⟨w.heap.size + 1 + 1, 0, none⟩)]) (by simp) (by simp [go_sem]) ?_
    refine (throw_st (w.heap.size + 1 + 1) _ (BE.cell 0) (BE.frozen 0)).mono ?_
    rintro e u' w'' ⟨rfl, rfl, hw⟩
    subst hw
    simp at d0 d1 d2 d3 d4 d5 d6 d7 d8 d9 g0
    simp [Leaves, settle, results, Tryz.results30, go_sem, d0, d1, d2, d3, d4, d5, d6, d7, d8, d9, g0]
    rw [HP.out]
    exact ⟨_, _, _, _, _, _, _, _, _, _, ⟨⟨rfl, rfl, rfl, rfl, rfl, rfl, rfl, rfl, rfl, rfl⟩, rfl⟩, tin_zero, HFIN.out⟩
set_option maxHeartbeats 8000000 in
theorem pGetT_any (t : SX) (w : World) (S : Nat → Prop) (cs : List Value) (hs : SIn w S t cs) (ht : Tab w) (hto : OrdT w) :
    Calls Tryz.prog 14 #[.agg cs.toArray] w fun e w' => ∃ v0 v1 v2 v3 v4 v5 v6 v7 v8 v9, e = .returned (.tuple #[.agg #[v0, v1, v2, v3, v4, v5, v6, v7, v8, v9], .int .i64 (getR t).2]) ∧ TIn w' (fun b => w.heap.size ≤ b) (getR t).1 [v0, v1, v2, v3, v4, v5, v6, v7, v8, v9] ∧ Below w.heap.size w w' := by
  obtain ⟨l, h, hi, da, ks, A1, n1, c1, A2, n2, c2, A3, n3, c3, eT, rfl⟩ := hs.form_
  obtain ⟨w0, hw0⟩ : ∃ w0, w0 = ((w.alloc (.cells #[.bool l, .bool h, .slice A1 n1 c1, .slice A2 n2 c2, .slice A3 n3 c3] 34)).alloc (.cells #[.int .u8 0, .slice none 0 0, .slice none 0 0, .int .u8 0, .bool false, .bool false, .slice none 0 0, .bool false, .bool false, .slice none 0 0] 29)) := ⟨_, rfl⟩
  have HB0 : Hid (Below w.heap.size w w0) := by
    show Below _ _ _
    rw [hw0]
    exact ((Below.refl w.heap.size w).alloc (Nat.le_refl _) _).alloc (by simp; try omega) _
  have B0 : Blk w0 w.heap.size 34 #[.bool l, .bool h, .slice A1 n1 c1, .slice A2 n2 c2, .slice A3 n3 c3] := by
    rw [hw0]
    exact (Blk.new w 34 #[.bool l, .bool h, .slice A1 n1 c1, .slice A2 n2 c2, .slice A3 n3 c3]).alloc (.cells #[.int .u8 0, .slice none 0 0, .slice none 0 0, .int .u8 0, .bool false, .bool false, .slice none 0 0, .bool false, .bool false, .slice none 0 0] 29)
  have X0 : Hid (∀ W, Below w0.heap.size w0 W → ∀ kx u, (#[.bool l, .bool h, .slice A1 n1 c1, .slice A2 n2 c2, .slice A3 n3 c3] : Array Value)[kx]? = some u → W.cell? ⟨w.heap.size, kx, none⟩ = some u) := fun W hW kx u hk => cell_below hW ((B0.cell kx).trans hk) B0.lt
  have B1 : Blk w0 (w.heap.size + 1) 29 #[.int .u8 0, .slice none 0 0, .slice none 0 0, .int .u8 0, .bool false, .bool false, .slice none 0 0, .bool false, .bool false, .slice none 0 0] := by
    rw [hw0]
    have h := Blk.new (w.alloc (.cells #[.bool l, .bool h, .slice A1 n1 c1, .slice A2 n2 c2, .slice A3 n3 c3] 34)) 29 #[.int .u8 0, .slice none 0 0, .slice none 0 0, .int .u8 0, .bool false, .bool false, .slice none 0 0, .bool false, .bool false, .slice none 0 0]
    simpa using h
  have X1 : Hid (∀ W, Below w0.heap.size w0 W → ∀ kx u, (#[.int .u8 0, .slice none 0 0, .slice none 0 0, .int .u8 0, .bool false, .bool false, .slice none 0 0, .bool false, .bool false, .slice none 0 0] : Array Value)[kx]? = some u → W.cell? ⟨(w.heap.size + 1), kx, none⟩ = some u) := fun W hW kx u hk => cell_below hW ((B1.cell kx).trans hk) B1.lt
  have HR : Below w0.heap.size w0 w0 := Below.refl _ _
  have hz0 : w0.heap.size = w.heap.size + 2 := by rw [hw0]; simp
  have KV := hid (pCaughtS t w0 S _ (hs.old HB0.out) (ht.old HB0.out) (hto.old HB0.out))
  have B1 := hid B1
  clear hs ht hto eT B0
  go_enter Tryz.func14, Tryz.ntmps14
  go_upto_region 1 with fail
  rw [← hw0]
  clear hw0
  have x0_0 := X0.out _ HR 0 _ rfl
  have x0_1 := X0.out _ HR 1 _ rfl
  have x0_2 := X0.out _ HR 2 _ rfl
  have x0_3 := X0.out _ HR 3 _ rfl
  have x0_4 := X0.out _ HR 4 _ rfl
  have x1_0 := X1.out _ HR 0 _ rfl
  have x1_1 := X1.out _ HR 1 _ rfl
  have x1_2 := X1.out _ HR 2 _ rfl
  have x1_3 := X1.out _ HR 3 _ rfl
  have x1_4 := X1.out _ HR 4 _ rfl
  have x1_5 := X1.out _ HR 5 _ rfl
  have x1_6 := X1.out _ HR 6 _ rfl
  have x1_7 := X1.out _ HR 7 _ rfl
  have x1_8 := X1.out _ HR 8 _ rfl
  have x1_9 := X1.out _ HR 9 _ rfl
  go_wp2_with first
    | (go_at_call 30; refine (KV.out).mono ?_; rintro e w1 ⟨u0, u1, u2, u3, u4, u5, u6, u7, u8, u9, rfl, hin, hb1⟩; obtain ⟨k, o, i1, p1, i2, p2, A4, n4, c4, A5, n5, c5, A6, n6, c6, A7, n7, c7, eE⟩ := hin.lets; injection eE with e0 eE; injection eE with e1 eE; injection eE with e2 eE; injection eE with e3 eE; injection eE with e4 eE; injection eE with e5 eE; injection eE with e6 eE; injection eE with e7 eE; injection eE with e8 eE; injection eE with e9 eE; subst e0 e1 e2 e3 e4 e5 e6 e7 e8 e9; have BY := B1.out.old hb1; have HIN := hid hin; have HB1 := hid hb1; clear hin hb1 eE)
    | (refine wpList_store_row rfl 29 (.tmp 2) (.tmp 6) rfl (w.heap.size + 1) #[.int .u8 k, .slice A4 n4 c4, .slice A5 n5 c5, .int .u8 o, .bool i1, .bool p1, .slice A6 n6 c6, .bool i2, .bool p2, .slice A7 n7 c7] rfl rfl 29 #[.int .u8 0, .slice none 0 0, .slice none 0 0, .int .u8 0, .bool false, .bool false, .slice none 0 0, .bool false, .bool false, .slice none 0 0] BY infoTag10 rfl (one10 _ _ _ _ _ _ _ _ _ _ _ _ _ _ _ _ _ _) ?_)
  exact bodyPost_ret (results_st_tmp Tryz.results14 _ _ (w.heap.size + 1) 29 _ _ _ rfl rfl (BY.row _) Tryz.underlying29 rfl infoTag10) rfl ⟨_, _, _, _, _, _, _, _, _, _, rfl, (HIN.out.keep fun q hq => row_cell (by have hq : w0.heap.size ≤ q.block := hq; omega)).more fun b hb => by have hb : w0.heap.size ≤ b := hb; omega, below_row (next_below HB0.out HB1.out) (by omega) _⟩
theorem tagOk : TagOk (fun w => Tab w ∧ OrdT w) where
  old h hb := ⟨h.1.old hb, h.2.old hb⟩
  may t w S cs hq hs hm := pMayT_any t w S cs hs hm.1 hq.1 hq.2
  put t w S cs hq hs hm := (pPut_any t w S cs hs hm.1 hq.1 hq.2).mono (by
    rintro e w' ⟨v0, v1, v2, v3, v4, he, hin, hb⟩
    exact ⟨v0, v1, v2, v3, v4, he, hin.more fun b hb => .inr hb, hb⟩)
  get v w S cs hq hs hm := (pGetT_any v w S cs hs hq.1 hq.2).mono (by
    rintro e w' ⟨v0, v1, v2, v3, v4, v5, v6, v7, v8, v9, he, hin, hb⟩
    exact ⟨v0, v1, v2, v3, v4, v5, v6, v7, v8, v9, he, hin.more fun b hb => .inr hb, hb⟩)
  same t t' w S S' cs cs' hq hs hs' hf hf' := pSameT_any t t' w S S' cs cs' hs hs' hf hf'
  request v w S cs hq hs hm := pRequest_any v w S cs hs hq.1
end Go.Proofs.YtinlonpcakkfhaaGreatDoor
end
