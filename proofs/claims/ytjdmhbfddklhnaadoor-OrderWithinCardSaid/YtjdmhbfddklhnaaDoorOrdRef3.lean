/-
  The contracts of the document's answers of layer 11 on ranges (package greffierref11). Conditions: ends of at most 2^40 bytes.
-/
import Derived.Test.YtjdmhbfddklhnaaDoorOrdRef2
import Derived.Test.YtjdmhbfddklhnaaDoorSchL
set_option linter.unusedSimpArgs false
set_option linter.unusedVariables false
set_option maxRecDepth 100000
namespace Go.Proofs.YtjdmhbfddklhnaaDoor
open Go Go.Proofs Go.RowKit _root_.Ord11 Go.Proofs.YtjdmhbfddklhnaaDoor.Ord11

set_option maxHeartbeats 4000000 in
theorem refGreat11 (r : Rg) (A1 A2 : Option Addr) (n1 c1 n2 c2 : Nat) (w : World) :
    Calls Tryd.prog 13 #[.agg (rgC r A1 n1 c1 A2 n2 c2)] w fun e w' => e = .returned (.bool (decide (200 < n1) || decide (200 < n2))) ∧ Below w.heap.size w w' := by
  obtain ⟨o, ⟨i1, p1, l1⟩, ⟨i2, p2, l2⟩⟩ := r
  obtain ⟨X, hX⟩ : ∃ X, X = (decide (200 < n1) || decide (200 < n2)) := ⟨_, rfl⟩
  rw [← hX]
  have HX := Lib.hid hX
  clear hX
  obtain ⟨w0, hw0⟩ : ∃ w0, w0 = (w.alloc (.cells #[.int .u8 o, .bool i1, .bool p1, .slice A1 n1 c1, .bool i2, .bool p2, .slice A2 n2 c2] 31)) := ⟨_, rfl⟩
  have HB0 : Hid (Below w.heap.size w w0) := by
    show Below _ _ _
    rw [hw0]
    exact (Below.refl w.heap.size w).alloc (Nat.le_refl _) _
  have B0 : Blk w0 w.heap.size 31 #[.int .u8 o, .bool i1, .bool p1, .slice A1 n1 c1, .bool i2, .bool p2, .slice A2 n2 c2] := by
    rw [hw0]
    exact Blk.new w 31 #[.int .u8 o, .bool i1, .bool p1, .slice A1 n1 c1, .bool i2, .bool p2, .slice A2 n2 c2]
  have X0 : Hid (∀ W, Below w0.heap.size w0 W → ∀ k u, (#[.int .u8 o, .bool i1, .bool p1, .slice A1 n1 c1, .bool i2, .bool p2, .slice A2 n2 c2] : Array Value)[k]? = some u → W.cell? ⟨w.heap.size, k, none⟩ = some u) := fun W hW k u hk => cell_below hW ((B0.cell k).trans hk) B0.lt
  have HR : Below w0.heap.size w0 w0 := Below.refl _ _
  clear B0
  unfold rgC
  go_enter Tryd.func13, Tryd.ntmps13
  go_upto_region 1 with fail
  rw [← hw0]
  clear hw0
  have x0_0 := X0.out _ HR 0 _ rfl
  have x0_1 := X0.out _ HR 1 _ rfl
  have x0_2 := X0.out _ HR 2 _ rfl
  have x0_3 := X0.out _ HR 3 _ rfl
  have x0_4 := X0.out _ HR 4 _ rfl
  have x0_5 := X0.out _ HR 5 _ rfl
  have x0_6 := X0.out _ HR 6 _ rfl
  by_cases h1 : 200 < n1
  · go_wp2_with fail
    go_ret
    exact ⟨by rw [HX.out]; simp [h1] <;> omega, HB0.out⟩
  · by_cases h2 : 200 < n2
    · go_wp2_with fail
      go_ret
      exact ⟨by rw [HX.out]; simp [h2] <;> omega, HB0.out⟩
    · go_wp2_with fail
      go_ret
      exact ⟨by rw [HX.out]; simp [h1, h2] <;> omega, HB0.out⟩
set_option maxHeartbeats 4000000 in
theorem refsame11 (x y : Bd) {A1 A2 : Option Addr} {n1 c1 n2 c2 : Nat} (w : World) (h1 : SlAt w w.heap.size A1 n1 c1 x.at_) (h2 : SlAt w w.heap.size A2 n2 c2 y.at_) :
    Calls Tryd.prog 36 #[.agg (bdC x A1 n1 c1), .agg (bdC y A2 n2 c2)] w fun e w' => e = .returned (.bool (sameB x y)) ∧ Below w.heap.size w w' := by
  obtain ⟨i1, p1, l1⟩ := x
  obtain ⟨i2, p2, l2⟩ := y
  dsimp only at h1 h2
  obtain ⟨X, hX⟩ : ∃ X, X = sameB ⟨i1, p1, l1⟩ ⟨i2, p2, l2⟩ := ⟨_, rfl⟩
  rw [← hX]
  have s1 : (⟨l1.toArray⟩ : ByteArray).toList = l1 := by rw [ByteArray.toList_eq]
  have s2 : (⟨l2.toArray⟩ : ByteArray).toList = l2 := by rw [ByteArray.toList_eq]
  obtain ⟨w0, hw0⟩ : ∃ w0, w0 = ((w.alloc (.cells #[.bool i1, .bool p1, .slice A1 n1 c1] 29)).alloc (.cells #[.bool i2, .bool p2, .slice A2 n2 c2] 29)) := ⟨_, rfl⟩
  have HB0 : Hid (Below w.heap.size w w0) := by
    show Below _ _ _
    rw [hw0]
    exact ((Below.refl w.heap.size w).alloc (Nat.le_refl _) _).alloc (by simp; try omega) _
  have B0 : Blk w0 w.heap.size 29 #[.bool i1, .bool p1, .slice A1 n1 c1] := by
    rw [hw0]
    exact (Blk.new w 29 #[.bool i1, .bool p1, .slice A1 n1 c1]).alloc _
  have X0 : Hid (∀ W, Below w0.heap.size w0 W → ∀ k u, (#[.bool i1, .bool p1, .slice A1 n1 c1] : Array Value)[k]? = some u → W.cell? ⟨w.heap.size, k, none⟩ = some u) := fun W hW k u hk => cell_below hW ((B0.cell k).trans hk) B0.lt
  have B1 : Blk w0 (w.heap.size + 1) 29 #[.bool i2, .bool p2, .slice A2 n2 c2] := by
    rw [hw0]
    have h := Blk.new (w.alloc (.cells #[.bool i1, .bool p1, .slice A1 n1 c1] 29)) 29 #[.bool i2, .bool p2, .slice A2 n2 c2]
    simpa using h
  have X1 : Hid (∀ W, Below w0.heap.size w0 W → ∀ k u, (#[.bool i2, .bool p2, .slice A2 n2 c2] : Array Value)[k]? = some u → W.cell? ⟨(w.heap.size + 1), k, none⟩ = some u) := fun W hW k u hk => cell_below hW ((B1.cell k).trans hk) B1.lt
  have HR : Below w0.heap.size w0 w0 := Below.refl _ _
  clear B0 B1
  have k1 := run_back (c := c1) (h1.next HB0.out).rd
  have k2 := run_back (c := c2) (h2.next HB0.out).rd
  generalize (⟨l1.toArray⟩ : ByteArray) = S at k1 s1
  generalize (⟨l2.toArray⟩ : ByteArray) = S' at k2 s2
  obtain ⟨q, hq⟩ : ∃ q, (S.toList == S'.toList) = q := ⟨_, rfl⟩
  have HX : Hid (X = ((i1 == i2) && (p1 == p2) && q)) := by show _ = _; rw [hX, ← hq, s1, s2]; rfl
  clear hX s1 s2 h1 h2
  unfold bdC
  go_enter Tryd.func36, Tryd.ntmps36
  go_upto_region 1 with fail
  rw [← hw0]
  clear hw0
  have x0_0 := X0.out _ HR 0 _ rfl
  have x0_1 := X0.out _ HR 1 _ rfl
  have x0_2 := X0.out _ HR 2 _ rfl
  have x1_0 := X1.out _ HR 0 _ rfl
  have x1_1 := X1.out _ HR 1 _ rfl
  have x1_2 := X1.out _ HR 2 _ rfl
  cases i1 <;> cases i2 <;> cases p1 <;> cases p2
  all_goals go_wp2_with fail
  all_goals go_ret
  all_goals exact ⟨by rw [HX.out]; simp_all, HB0.out⟩
set_option maxHeartbeats 8000000 in
theorem refSame11 (r s : Rg) (hor : r.o < 256) (hos : s.o < 256) {A1 A2 A3 A4 : Option Addr} {n1 c1 n2 c2 n3 c3 n4 c4 : Nat} (w : World) (h1 : SlAt w w.heap.size A1 n1 c1 r.lo.at_) (h2 : SlAt w w.heap.size A2 n2 c2 r.hi.at_) (h3 : SlAt w w.heap.size A3 n3 c3 s.lo.at_) (h4 : SlAt w w.heap.size A4 n4 c4 s.hi.at_) :
    Calls Tryd.prog 22 #[.agg (rgC r A1 n1 c1 A2 n2 c2), .agg (rgC s A3 n3 c3 A4 n4 c4)] w fun e w' => e = .returned (.bool (sameR r s)) ∧ Below w.heap.size w w' := by
  obtain ⟨oa, ⟨ia1, pa1, l1⟩, ⟨ia2, pa2, l2⟩⟩ := r
  obtain ⟨ob, ⟨ib1, pb1, l3⟩, ⟨ib2, pb2, l4⟩⟩ := s
  dsimp only at h1 h2 h3 h4 hor hos
  obtain ⟨X, hX⟩ : ∃ X, X = sameR ⟨oa, ⟨ia1, pa1, l1⟩, ⟨ia2, pa2, l2⟩⟩ ⟨ob, ⟨ib1, pb1, l3⟩, ⟨ib2, pb2, l4⟩⟩ := ⟨_, rfl⟩
  rw [← hX]
  obtain ⟨q1, hq1⟩ : ∃ q, q = sameB ⟨ia1, pa1, l1⟩ ⟨ib1, pb1, l3⟩ := ⟨_, rfl⟩
  obtain ⟨q2, hq2⟩ : ∃ q, q = sameB ⟨ia2, pa2, l2⟩ ⟨ib2, pb2, l4⟩ := ⟨_, rfl⟩
  have HX : Hid (X = (decide (oa = ob) && q1 && q2)) := by show _ = _; rw [hX, hq1, hq2]; rfl
  clear hX
  obtain ⟨w0, hw0⟩ : ∃ w0, w0 = ((w.alloc (.cells #[.int .u8 oa, .bool ia1, .bool pa1, .slice A1 n1 c1, .bool ia2, .bool pa2, .slice A2 n2 c2] 31)).alloc (.cells #[.int .u8 ob, .bool ib1, .bool pb1, .slice A3 n3 c3, .bool ib2, .bool pb2, .slice A4 n4 c4] 31)) := ⟨_, rfl⟩
  have HB0 : Hid (Below w.heap.size w w0) := by
    show Below _ _ _
    rw [hw0]
    exact ((Below.refl w.heap.size w).alloc (Nat.le_refl _) _).alloc (by simp; try omega) _
  have B0 : Blk w0 w.heap.size 31 #[.int .u8 oa, .bool ia1, .bool pa1, .slice A1 n1 c1, .bool ia2, .bool pa2, .slice A2 n2 c2] := by
    rw [hw0]
    exact (Blk.new w 31 #[.int .u8 oa, .bool ia1, .bool pa1, .slice A1 n1 c1, .bool ia2, .bool pa2, .slice A2 n2 c2]).alloc _
  have X0 : Hid (∀ W, Below w0.heap.size w0 W → ∀ k u, (#[.int .u8 oa, .bool ia1, .bool pa1, .slice A1 n1 c1, .bool ia2, .bool pa2, .slice A2 n2 c2] : Array Value)[k]? = some u → W.cell? ⟨w.heap.size, k, none⟩ = some u) := fun W hW k u hk => cell_below hW ((B0.cell k).trans hk) B0.lt
  have B1 : Blk w0 (w.heap.size + 1) 31 #[.int .u8 ob, .bool ib1, .bool pb1, .slice A3 n3 c3, .bool ib2, .bool pb2, .slice A4 n4 c4] := by
    rw [hw0]
    have h := Blk.new (w.alloc (.cells #[.int .u8 oa, .bool ia1, .bool pa1, .slice A1 n1 c1, .bool ia2, .bool pa2, .slice A2 n2 c2] 31)) 31 #[.int .u8 ob, .bool ib1, .bool pb1, .slice A3 n3 c3, .bool ib2, .bool pb2, .slice A4 n4 c4]
    simpa using h
  have X1 : Hid (∀ W, Below w0.heap.size w0 W → ∀ k u, (#[.int .u8 ob, .bool ib1, .bool pb1, .slice A3 n3 c3, .bool ib2, .bool pb2, .slice A4 n4 c4] : Array Value)[k]? = some u → W.cell? ⟨(w.heap.size + 1), k, none⟩ = some u) := fun W hW k u hk => cell_below hW ((B1.cell k).trans hk) B1.lt
  have HR : Below w0.heap.size w0 w0 := Below.refl _ _
  clear B0 B1
  have K1 : Hid (∀ W, Below w0.heap.size w0 W → Calls Tryd.prog 36 #[.agg #[.bool ia1, .bool pa1, .slice A1 n1 c1], .agg #[.bool ib1, .bool pb1, .slice A3 n3 c3]] W fun e w' => e = .returned (.bool q1) ∧ Below W.heap.size W w') := by
    intro W hW
    have hW' := next_below HB0.out hW
    rw [hq1]; exact refsame11 ⟨ia1, pa1, l1⟩ ⟨ib1, pb1, l3⟩ W (h1.next hW') (h3.next hW')
  have K2 : Hid (∀ W, Below w0.heap.size w0 W → Calls Tryd.prog 36 #[.agg #[.bool ia2, .bool pa2, .slice A2 n2 c2], .agg #[.bool ib2, .bool pb2, .slice A4 n4 c4]] W fun e w' => e = .returned (.bool q2) ∧ Below W.heap.size W w') := by
    intro W hW
    have hW' := next_below HB0.out hW
    rw [hq2]; exact refsame11 ⟨ia2, pa2, l2⟩ ⟨ib2, pb2, l4⟩ W (h2.next hW') (h4.next hW')
  clear hq1 hq2 h1 h2 h3 h4
  unfold rgC
  go_enter Tryd.func22, Tryd.ntmps22
  go_upto_region 1 with fail
  rw [← hw0]
  clear hw0
  have x0_0 := X0.out _ HR 0 _ rfl
  have x0_1 := X0.out _ HR 1 _ rfl
  have x0_2 := X0.out _ HR 2 _ rfl
  have x0_3 := X0.out _ HR 3 _ rfl
  have x0_4 := X0.out _ HR 4 _ rfl
  have x0_5 := X0.out _ HR 5 _ rfl
  have x0_6 := X0.out _ HR 6 _ rfl
  have x1_0 := X1.out _ HR 0 _ rfl
  have x1_1 := X1.out _ HR 1 _ rfl
  have x1_2 := X1.out _ HR 2 _ rfl
  have x1_3 := X1.out _ HR 3 _ rfl
  have x1_4 := X1.out _ HR 4 _ rfl
  have x1_5 := X1.out _ HR 5 _ rfl
  have x1_6 := X1.out _ HR 6 _ rfl
  by_cases ho : oa = ob
  · subst ho
    have hoB : ((oa : Int) == (oa : Int)) = true := beq_self_eq_true _
    cases q1
    all_goals go_wp2_with (go_at_call 36; (first | (with_reducible refine (K1.out _ (by assumption)).mono ?_) | (with_reducible refine (K2.out _ (by assumption)).mono ?_)); rintro e w1 ⟨rfl, hb⟩; have hB := next_below (by assumption) hb; have x0_0 := X0.out _ hB 0 _ rfl; have x0_1 := X0.out _ hB 1 _ rfl; have x0_2 := X0.out _ hB 2 _ rfl; have x0_3 := X0.out _ hB 3 _ rfl; have x0_4 := X0.out _ hB 4 _ rfl; have x0_5 := X0.out _ hB 5 _ rfl; have x0_6 := X0.out _ hB 6 _ rfl; have x1_0 := X1.out _ hB 0 _ rfl; have x1_1 := X1.out _ hB 1 _ rfl; have x1_2 := X1.out _ hB 2 _ rfl; have x1_3 := X1.out _ hB 3 _ rfl; have x1_4 := X1.out _ hB 4 _ rfl; have x1_5 := X1.out _ hB 5 _ rfl; have x1_6 := X1.out _ hB 6 _ rfl; clear hb)
    all_goals go_ret
    all_goals exact ⟨by rw [HX.out]; simp, next_below HB0.out (by assumption)⟩
  · have hoB : ((oa : Int) == (ob : Int)) = false := by rw [beq_eq_false_iff_ne]; omega
    have HO := Lib.hid ho
    clear ho
    go_wp2_with fail
    go_ret
    exact ⟨by rw [HX.out]; simp [HO.out], HB0.out⟩
end Go.Proofs.YtjdmhbfddklhnaaDoor
