/-
  The contracts of the document's answers of layer 11 on ranges (package greffierref11). Conditions: ends of at most 2^40 bytes.
-/
import Derived.Test.YtjdmhbfddklhnaaDoorOrdRef2
import Derived.Test.YtjdmhbfddklhnaaDoorSchL
import Derived.Laws.Rows
set_option linter.unusedSimpArgs false
set_option linter.unusedVariables false
set_option maxRecDepth 100000
namespace Go.Proofs.YtjdmhbfddklhnaaDoor
open Go Go.Proofs Go.RowKit _root_.Ord11 Go.Proofs.YtjdmhbfddklhnaaDoor.Ord11

/-- Which of two ends is taken: the first one? -/
def endP (o : Nat) (x y : Bd) (lower : Bool) : Bool :=
  if x.is = false then false else if y.is = false then true else
  if (ordC o x.at_ y.at_).1 = 0 then !(y.op && !x.op) else decide (0 < (ordC o x.at_ y.at_).1) == lower
def pickA (b : Bool) (x y : Array Value) : Array Value := if b then x else y
theorem endB_endP (o : Nat) (x y : Bd) (lower : Bool) : endB ordC o x y lower = if endP o x y lower then x else y := by
  unfold endB endP
  by_cases h1 : x.is = false
  · simp [h1]
  · by_cases h2 : y.is = false
    · simp [h1, h2]
    · by_cases h3 : (ordC o x.at_ y.at_).1 = 0
      · cases y.op <;> cases x.op <;> simp [h1, h2, h3]
      · simp [h1, h2, h3]
theorem infoBd : (Tryd.prog.info? 29).map (fun i => (i.zero, i.size)) = some (some (.agg #[.bool false, .bool false, .slice none 0 0]), 3) := by kernel_rfl
theorem infoBd2 : (Tryd.prog.info? 29).map (·.size) = some 3 := by kernel_rfl

set_option maxHeartbeats 8000000 in
theorem refEnd11 (o : Nat) (ho : o < 256) (x y : Bd) (lower : Bool) {A1 A2 : Option Addr} {n1 c1 n2 c2 : Nat} (w : World) (h1 : SlAt w w.heap.size A1 n1 c1 x.at_) (h2 : SlAt w w.heap.size A2 n2 c2 y.at_) :
    Calls Tryd.prog 35 #[.int .u8 o, .agg (bdC x A1 n1 c1), .agg (bdC y A2 n2 c2), .bool lower] w fun e w' => e = .returned (.agg (pickA (endP o x y lower) (bdC x A1 n1 c1) (bdC y A2 n2 c2))) ∧ Below w.heap.size w w' := by
  obtain ⟨i1, p1, l1⟩ := x
  obtain ⟨i2, p2, l2⟩ := y
  dsimp only at h1 h2
  obtain ⟨z, hz⟩ : ∃ z, z = (ordC o l1 l2).1 := ⟨_, rfl⟩
  obtain ⟨X, hX⟩ : ∃ X, X = endP o ⟨i1, p1, l1⟩ ⟨i2, p2, l2⟩ lower := ⟨_, rfl⟩
  rw [← hX]
  have HX : Hid (X = if i1 = false then false else if i2 = false then true else if z = 0 then !(p2 && !p1) else decide (0 < z) == lower) := by show _ = _; rw [hX, hz]; rfl
  clear hX
  obtain ⟨w0, hw0⟩ : ∃ w0, w0 = (((w.alloc (.cells #[.bool i1, .bool p1, .slice A1 n1 c1] 29)).alloc (.cells #[.bool i2, .bool p2, .slice A2 n2 c2] 29)).alloc (.cells #[.bool false, .bool false, .slice none 0 0] 29)) := ⟨_, rfl⟩
  have HB0 : Hid (Below w.heap.size w w0) := by
    show Below _ _ _
    rw [hw0]
    exact (((Below.refl w.heap.size w).alloc (Nat.le_refl _) _).alloc (by simp; try omega) _).alloc (by simp; try omega) _
  have B0 : Blk w0 w.heap.size 29 #[.bool i1, .bool p1, .slice A1 n1 c1] := by
    rw [hw0]
    exact ((Blk.new w 29 #[.bool i1, .bool p1, .slice A1 n1 c1]).alloc (.cells #[.bool i2, .bool p2, .slice A2 n2 c2] 29)).alloc (.cells #[.bool false, .bool false, .slice none 0 0] 29)
  have X0 : Hid (∀ W, Below w0.heap.size w0 W → ∀ k u, (#[.bool i1, .bool p1, .slice A1 n1 c1] : Array Value)[k]? = some u → W.cell? ⟨w.heap.size, k, none⟩ = some u) := fun W hW k u hk => cell_below hW ((B0.cell k).trans hk) B0.lt
  have B1 : Blk w0 (w.heap.size + 1) 29 #[.bool i2, .bool p2, .slice A2 n2 c2] := by
    rw [hw0]
    have h := (Blk.new (w.alloc (.cells #[.bool i1, .bool p1, .slice A1 n1 c1] 29)) 29 #[.bool i2, .bool p2, .slice A2 n2 c2]).alloc (.cells #[.bool false, .bool false, .slice none 0 0] 29)
    simpa using h
  have X1 : Hid (∀ W, Below w0.heap.size w0 W → ∀ k u, (#[.bool i2, .bool p2, .slice A2 n2 c2] : Array Value)[k]? = some u → W.cell? ⟨(w.heap.size + 1), k, none⟩ = some u) := fun W hW k u hk => cell_below hW ((B1.cell k).trans hk) B1.lt
  have B2 : Blk w0 (w.heap.size + 1 + 1) 29 #[.bool false, .bool false, .slice none 0 0] := by
    rw [hw0]
    have h := Blk.new ((w.alloc (.cells #[.bool i1, .bool p1, .slice A1 n1 c1] 29)).alloc (.cells #[.bool i2, .bool p2, .slice A2 n2 c2] 29)) 29 #[.bool false, .bool false, .slice none 0 0]
    simpa using h
  have X2 : Hid (∀ W, Below w0.heap.size w0 W → ∀ k u, (#[.bool false, .bool false, .slice none 0 0] : Array Value)[k]? = some u → W.cell? ⟨(w.heap.size + 1 + 1), k, none⟩ = some u) := fun W hW k u hk => cell_below hW ((B2.cell k).trans hk) B2.lt
  have HR : Below w0.heap.size w0 w0 := Below.refl _ _
  clear B0 B1 B2
  have K1 : Hid (∀ W, Below w0.heap.size w0 W → Calls Tryd.prog 10 #[.int .u8 o, .slice A1 n1 c1, .slice A2 n2 c2] W fun e w' => e = .returned (.tuple #[.int .i64 z, .bool (ordC o l1 l2).2]) ∧ Below W.heap.size W w') := by
    intro W hW
    have hW' := next_below HB0.out hW
    rw [hz]; exact cmpOk11 o ho (h1.next hW') (h2.next hW')
  have KZ : Hid (∀ W, Below w0.heap.size w0 W → Blk W (w.heap.size + 1 + 1) 29 #[.bool false, .bool false, .slice none 0 0]) := by
    intro W hW
    refine Blk.old (w := w0) ?_ hW
    rw [hw0]
    have h := Blk.new ((w.alloc (.cells #[.bool i1, .bool p1, .slice A1 n1 c1] 29)).alloc (.cells #[.bool i2, .bool p2, .slice A2 n2 c2] 29)) 29 #[.bool false, .bool false, .slice none 0 0]
    simpa using h
  generalize (ordC o l1 l2).2 = y1 at K1
  have hgt : w.heap.size ≤ w.heap.size + 1 + 1 := by omega
  clear hz h1 h2
  unfold bdC
  have hone1 : Hid ((#[.bool i1, .bool p1, .slice A1 n1 c1] : Array Value).all (·.oneCell') = true) := by show _ = _; simp [Value.oneCell']
  have hone2 : Hid ((#[.bool i2, .bool p2, .slice A2 n2 c2] : Array Value).all (·.oneCell') = true) := by show _ = _; simp [Value.oneCell']
  have hs1 : Hid ((Tryd.prog.info? 29).map (·.size) = some (#[.bool i1, .bool p1, .slice A1 n1 c1] : Array Value).size) := infoBd2
  have hs2 : Hid ((Tryd.prog.info? 29).map (·.size) = some (#[.bool i2, .bool p2, .slice A2 n2 c2] : Array Value).size) := infoBd2
  have hz1 : Hid ((#[.bool false, .bool false, .slice none 0 0] : Array Value).size = (#[.bool i1, .bool p1, .slice A1 n1 c1] : Array Value).size) := rfl
  have hz2 : Hid ((#[.bool false, .bool false, .slice none 0 0] : Array Value).size = (#[.bool i2, .bool p2, .slice A2 n2 c2] : Array Value).size) := rfl
  go_enter Tryd.func35, Tryd.ntmps35
  go_upto_region 1 with fail
  rw [← hw0]
  clear hw0
  have x0_0 := X0.out _ HR 0 _ rfl
  have x0_1 := X0.out _ HR 1 _ rfl
  have x0_2 := X0.out _ HR 2 _ rfl
  have x1_0 := X1.out _ HR 0 _ rfl
  have x1_1 := X1.out _ HR 1 _ rfl
  have x1_2 := X1.out _ HR 2 _ rfl
  cases i1 with
  | false =>
    go_wp2_with (refine wpList_store_row rfl 29 (.tmp 8) (.tmp 14) rfl (w.heap.size + 1 + 1) _ rfl rfl 29 #[.bool false, .bool false, .slice none 0 0] (KZ.out _ (by assumption)) hs2.out hz2.out hone2.out ?_)
    exact bodyPost_ret (results_cell_row Tryd.results35 _ _ (w.heap.size + 1 + 1) 29 _ (0, 0) _ rfl ((KZ.out _ (by assumption)).row _) Tryd.underlying29 rfl hs2.out) rfl ⟨by rw [HX.out]; unfold pickA; simp, below_row (next_below HB0.out (by assumption)) hgt _⟩
  | true =>
    cases i2 with
    | false =>
      go_wp2_with (refine wpList_store_row rfl 29 (.tmp 8) (.tmp 18) rfl (w.heap.size + 1 + 1) _ rfl rfl 29 #[.bool false, .bool false, .slice none 0 0] (KZ.out _ (by assumption)) hs1.out hz1.out hone1.out ?_)
      exact bodyPost_ret (results_cell_row Tryd.results35 _ _ (w.heap.size + 1 + 1) 29 _ (0, 0) _ rfl ((KZ.out _ (by assumption)).row _) Tryd.underlying29 rfl hs1.out) rfl ⟨by rw [HX.out]; unfold pickA; simp, below_row (next_below HB0.out (by assumption)) hgt _⟩
    | true =>
      rcases (show z < 0 ∨ z = 0 ∨ 0 < z by omega) with h | h | h
      · have f1 : decide (0 < z) = false := decide_eq_false (by omega)
        have f2 : (z == 0) = false := by rw [beq_eq_false_iff_ne]; omega
        have HZ := Lib.hid h
        clear h
        cases lower with
        | true =>
          go_wp2_with first | (go_at_call 10; (with_reducible refine (K1.out _ (by assumption)).mono ?_); rintro e w1 ⟨rfl, hb⟩; have hB := next_below (by assumption) hb; have x0_0 := X0.out _ hB 0 _ rfl; have x0_1 := X0.out _ hB 1 _ rfl; have x0_2 := X0.out _ hB 2 _ rfl; have x1_0 := X1.out _ hB 0 _ rfl; have x1_1 := X1.out _ hB 1 _ rfl; have x1_2 := X1.out _ hB 2 _ rfl; clear hb) | (refine wpList_store_row rfl 29 (.tmp 8) (.tmp 44) rfl (w.heap.size + 1 + 1) _ rfl rfl 29 #[.bool false, .bool false, .slice none 0 0] (KZ.out _ (by assumption)) hs2.out hz2.out hone2.out ?_)
          exact bodyPost_ret (results_cell_row Tryd.results35 _ _ (w.heap.size + 1 + 1) 29 _ (0, 0) _ rfl ((KZ.out _ (by assumption)).row _) Tryd.underlying29 rfl hs2.out) rfl ⟨by rw [HX.out]; unfold pickA; have h := HZ.out; simp [show ¬ z = 0 by omega, show ¬ 0 < z by omega], below_row (next_below HB0.out (by assumption)) hgt _⟩
        | false =>
          go_wp2_with first | (go_at_call 10; (with_reducible refine (K1.out _ (by assumption)).mono ?_); rintro e w1 ⟨rfl, hb⟩; have hB := next_below (by assumption) hb; have x0_0 := X0.out _ hB 0 _ rfl; have x0_1 := X0.out _ hB 1 _ rfl; have x0_2 := X0.out _ hB 2 _ rfl; have x1_0 := X1.out _ hB 0 _ rfl; have x1_1 := X1.out _ hB 1 _ rfl; have x1_2 := X1.out _ hB 2 _ rfl; clear hb) | (refine wpList_store_row rfl 29 (.tmp 8) (.tmp 43) rfl (w.heap.size + 1 + 1) _ rfl rfl 29 #[.bool false, .bool false, .slice none 0 0] (KZ.out _ (by assumption)) hs1.out hz1.out hone1.out ?_)
          exact bodyPost_ret (results_cell_row Tryd.results35 _ _ (w.heap.size + 1 + 1) 29 _ (0, 0) _ rfl ((KZ.out _ (by assumption)).row _) Tryd.underlying29 rfl hs1.out) rfl ⟨by rw [HX.out]; unfold pickA; have h := HZ.out; simp [show ¬ z = 0 by omega, show ¬ 0 < z by omega], below_row (next_below HB0.out (by assumption)) hgt _⟩
      · subst h
        cases p1 with
        | true =>
          cases p2
          all_goals go_wp2_with first | (go_at_call 10; (with_reducible refine (K1.out _ (by assumption)).mono ?_); rintro e w1 ⟨rfl, hb⟩; have hB := next_below (by assumption) hb; have x0_0 := X0.out _ hB 0 _ rfl; have x0_1 := X0.out _ hB 1 _ rfl; have x0_2 := X0.out _ hB 2 _ rfl; have x1_0 := X1.out _ hB 0 _ rfl; have x1_1 := X1.out _ hB 1 _ rfl; have x1_2 := X1.out _ hB 2 _ rfl; clear hb) | (refine wpList_store_row rfl 29 (.tmp 8) (.tmp 38) rfl (w.heap.size + 1 + 1) _ rfl rfl 29 #[.bool false, .bool false, .slice none 0 0] (KZ.out _ (by assumption)) hs1.out hz1.out hone1.out ?_)
          all_goals exact bodyPost_ret (results_cell_row Tryd.results35 _ _ (w.heap.size + 1 + 1) 29 _ (0, 0) _ rfl ((KZ.out _ (by assumption)).row _) Tryd.underlying29 rfl hs1.out) rfl ⟨by rw [HX.out]; unfold pickA; simp, below_row (next_below HB0.out (by assumption)) hgt _⟩
        | false =>
          cases p2 with
          | true =>
            go_wp2_with first | (go_at_call 10; (with_reducible refine (K1.out _ (by assumption)).mono ?_); rintro e w1 ⟨rfl, hb⟩; have hB := next_below (by assumption) hb; have x0_0 := X0.out _ hB 0 _ rfl; have x0_1 := X0.out _ hB 1 _ rfl; have x0_2 := X0.out _ hB 2 _ rfl; have x1_0 := X1.out _ hB 0 _ rfl; have x1_1 := X1.out _ hB 1 _ rfl; have x1_2 := X1.out _ hB 2 _ rfl; clear hb) | (refine wpList_store_row rfl 29 (.tmp 8) (.tmp 37) rfl (w.heap.size + 1 + 1) _ rfl rfl 29 #[.bool false, .bool false, .slice none 0 0] (KZ.out _ (by assumption)) hs2.out hz2.out hone2.out ?_)
            exact bodyPost_ret (results_cell_row Tryd.results35 _ _ (w.heap.size + 1 + 1) 29 _ (0, 0) _ rfl ((KZ.out _ (by assumption)).row _) Tryd.underlying29 rfl hs2.out) rfl ⟨by rw [HX.out]; unfold pickA; simp, below_row (next_below HB0.out (by assumption)) hgt _⟩
          | false =>
            go_wp2_with first | (go_at_call 10; (with_reducible refine (K1.out _ (by assumption)).mono ?_); rintro e w1 ⟨rfl, hb⟩; have hB := next_below (by assumption) hb; have x0_0 := X0.out _ hB 0 _ rfl; have x0_1 := X0.out _ hB 1 _ rfl; have x0_2 := X0.out _ hB 2 _ rfl; have x1_0 := X1.out _ hB 0 _ rfl; have x1_1 := X1.out _ hB 1 _ rfl; have x1_2 := X1.out _ hB 2 _ rfl; clear hb) | (refine wpList_store_row rfl 29 (.tmp 8) (.tmp 38) rfl (w.heap.size + 1 + 1) _ rfl rfl 29 #[.bool false, .bool false, .slice none 0 0] (KZ.out _ (by assumption)) hs1.out hz1.out hone1.out ?_)
            exact bodyPost_ret (results_cell_row Tryd.results35 _ _ (w.heap.size + 1 + 1) 29 _ (0, 0) _ rfl ((KZ.out _ (by assumption)).row _) Tryd.underlying29 rfl hs1.out) rfl ⟨by rw [HX.out]; unfold pickA; simp, below_row (next_below HB0.out (by assumption)) hgt _⟩
      · have f1 : decide (0 < z) = true := decide_eq_true h
        have f2 : (z == 0) = false := by rw [beq_eq_false_iff_ne]; omega
        have HZ := Lib.hid h
        clear h
        cases lower with
        | true =>
          go_wp2_with first | (go_at_call 10; (with_reducible refine (K1.out _ (by assumption)).mono ?_); rintro e w1 ⟨rfl, hb⟩; have hB := next_below (by assumption) hb; have x0_0 := X0.out _ hB 0 _ rfl; have x0_1 := X0.out _ hB 1 _ rfl; have x0_2 := X0.out _ hB 2 _ rfl; have x1_0 := X1.out _ hB 0 _ rfl; have x1_1 := X1.out _ hB 1 _ rfl; have x1_2 := X1.out _ hB 2 _ rfl; clear hb) | (refine wpList_store_row rfl 29 (.tmp 8) (.tmp 43) rfl (w.heap.size + 1 + 1) _ rfl rfl 29 #[.bool false, .bool false, .slice none 0 0] (KZ.out _ (by assumption)) hs1.out hz1.out hone1.out ?_)
          exact bodyPost_ret (results_cell_row Tryd.results35 _ _ (w.heap.size + 1 + 1) 29 _ (0, 0) _ rfl ((KZ.out _ (by assumption)).row _) Tryd.underlying29 rfl hs1.out) rfl ⟨by rw [HX.out]; unfold pickA; have h := HZ.out; simp [show ¬ z = 0 by omega, show 0 < z from h], below_row (next_below HB0.out (by assumption)) hgt _⟩
        | false =>
          go_wp2_with first | (go_at_call 10; (with_reducible refine (K1.out _ (by assumption)).mono ?_); rintro e w1 ⟨rfl, hb⟩; have hB := next_below (by assumption) hb; have x0_0 := X0.out _ hB 0 _ rfl; have x0_1 := X0.out _ hB 1 _ rfl; have x0_2 := X0.out _ hB 2 _ rfl; have x1_0 := X1.out _ hB 0 _ rfl; have x1_1 := X1.out _ hB 1 _ rfl; have x1_2 := X1.out _ hB 2 _ rfl; clear hb) | (refine wpList_store_row rfl 29 (.tmp 8) (.tmp 44) rfl (w.heap.size + 1 + 1) _ rfl rfl 29 #[.bool false, .bool false, .slice none 0 0] (KZ.out _ (by assumption)) hs2.out hz2.out hone2.out ?_)
          exact bodyPost_ret (results_cell_row Tryd.results35 _ _ (w.heap.size + 1 + 1) 29 _ (0, 0) _ rfl ((KZ.out _ (by assumption)).row _) Tryd.underlying29 rfl hs2.out) rfl ⟨by rw [HX.out]; unfold pickA; have h := HZ.out; simp [show ¬ z = 0 by omega, show 0 < z from h], below_row (next_below HB0.out (by assumption)) hgt _⟩
end Go.Proofs.YtjdmhbfddklhnaaDoor
