/-
  The contracts of the document's answers of layer 11 on ranges (package greffierref11). Conditions: ends of at most 2^40 bytes.
-/
import Derived.Test.YtjdmhbfddklhnaaDoorOrdRef2
import Derived.Test.YtjdmhbfddklhnaaDoorSchL
set_option linter.unusedSimpArgs false
set_option linter.unusedVariables false
set_option maxRecDepth 100000
namespace Go.Proofs.YtjdmhbfddklhnaaDoor
open Go Go.Proofs Go.RowKit _root_.Ord11 Go.Proofs.YtjdmhbfddklhnaaDoor.Ord11

set_option maxHeartbeats 8000000 in
theorem refIn11 (r : Rg) (ho : r.o < 256) {A1 A2 : Option Addr} {n1 c1 n2 c2 : Nat} {A3 : Option Addr} {n3 c3 : Nat} {b : List UInt8} (w : World) (h1 : SlAt w w.heap.size A1 n1 c1 r.lo.at_) (h2 : SlAt w w.heap.size A2 n2 c2 r.hi.at_) (h3 : SlAt w w.heap.size A3 n3 c3 b) :
    Calls Tryd.prog 17 #[.agg (rgC r A1 n1 c1 A2 n2 c2), .slice A3 n3 c3] w fun e w' => e = .returned (.bool (inR ordC r b)) ∧ Below w.heap.size w w' := by
  obtain ⟨o, ⟨i1, p1, l1⟩, ⟨i2, p2, l2⟩⟩ := r
  dsimp only at h1 h2 ho
  obtain ⟨X, hX⟩ : ∃ X, X = inR ordC ⟨o, ⟨i1, p1, l1⟩, ⟨i2, p2, l2⟩⟩ b := ⟨_, rfl⟩
  rw [← hX]
  obtain ⟨m, hm⟩ : ∃ m, m = mayR ordC ⟨o, ⟨i1, p1, l1⟩, ⟨i2, p2, l2⟩⟩ := ⟨_, rfl⟩
  obtain ⟨v, hv⟩ : ∃ v, v = isV ordC o b := ⟨_, rfl⟩
  obtain ⟨x, hx⟩ : ∃ x, x = (ordC o b l1).1 := ⟨_, rfl⟩
  obtain ⟨y, hy⟩ : ∃ y, y = (ordC o b l2).1 := ⟨_, rfl⟩
  have HX : Hid (X = (m && v && (!i1 || decide (0 < x) || (decide (x = 0) && !p1)) && (!i2 || decide (y < 0) || (decide (y = 0) && !p2)))) := by show _ = _; rw [hX, hm, hv, hx, hy]; rfl
  clear hX
  obtain ⟨w0, hw0⟩ : ∃ w0, w0 = (w.alloc (.cells #[.int .u8 o, .bool i1, .bool p1, .slice A1 n1 c1, .bool i2, .bool p2, .slice A2 n2 c2] 31)) := ⟨_, rfl⟩
  have HB0 : Hid (Below w.heap.size w w0) := by
    show Below _ _ _
    rw [hw0]
    exact (Below.refl w.heap.size w).alloc (Nat.le_refl _) _
  have B0 : Blk w0 w.heap.size 31 #[.int .u8 o, .bool i1, .bool p1, .slice A1 n1 c1, .bool i2, .bool p2, .slice A2 n2 c2] := by
    rw [hw0]
    exact Blk.new w 31 #[.int .u8 o, .bool i1, .bool p1, .slice A1 n1 c1, .bool i2, .bool p2, .slice A2 n2 c2]
  have X0 : Hid (∀ W, Below w0.heap.size w0 W → ∀ k u, (#[.int .u8 o, .bool i1, .bool p1, .slice A1 n1 c1, .bool i2, .bool p2, .slice A2 n2 c2] : Array Value)[k]? = some u → W.cell? ⟨w.heap.size, k, none⟩ = some u) := fun W hW k u hk => cell_below hW ((B0.cell k).trans hk) B0.lt
  have HR : Below w0.heap.size w0 w0 := Below.refl _ _
  clear B0
  have K1 : Hid (∀ W, Below w0.heap.size w0 W → Calls Tryd.prog 15 #[.agg #[.int .u8 o, .bool i1, .bool p1, .slice A1 n1 c1, .bool i2, .bool p2, .slice A2 n2 c2]] W fun e w' => e = .returned (.bool m) ∧ Below W.heap.size W w') := by
    intro W hW
    have hW' := next_below HB0.out hW
    rw [hm]; exact refMay11 ⟨o, ⟨i1, p1, l1⟩, ⟨i2, p2, l2⟩⟩ ho W (h1.next hW') (h2.next hW')
  have K2 : Hid (∀ W, Below w0.heap.size w0 W → Calls Tryd.prog 12 #[.int .u8 o, .slice A3 n3 c3] W fun e w' => e = .returned (.bool v) ∧ Below W.heap.size W w') := by
    intro W hW; rw [hv]; exact isOk11 o ho (h3.next (next_below HB0.out hW))
  have K3 : Hid (∀ W, Below w0.heap.size w0 W → Calls Tryd.prog 10 #[.int .u8 o, .slice A3 n3 c3, .slice A1 n1 c1] W fun e w' => e = .returned (.tuple #[.int .i64 x, .bool (ordC o b l1).2]) ∧ Below W.heap.size W w') := by
    intro W hW
    have hW' := next_below HB0.out hW
    rw [hx]; exact cmpOk11 o ho (h3.next hW') (h1.next hW')
  have K4 : Hid (∀ W, Below w0.heap.size w0 W → Calls Tryd.prog 10 #[.int .u8 o, .slice A3 n3 c3, .slice A2 n2 c2] W fun e w' => e = .returned (.tuple #[.int .i64 y, .bool (ordC o b l2).2]) ∧ Below W.heap.size W w') := by
    intro W hW
    have hW' := next_below HB0.out hW
    rw [hy]; exact cmpOk11 o ho (h3.next hW') (h2.next hW')
  generalize (ordC o b l1).2 = y1 at K3
  generalize (ordC o b l2).2 = y2 at K4
  clear hm hx hy hv h1 h2 h3
  unfold rgC
  go_enter Tryd.func17, Tryd.ntmps17
  go_upto_region 1 with fail
  rw [← hw0]
  clear hw0
  have x0_0 := X0.out _ HR 0 _ rfl
  have x0_1 := X0.out _ HR 1 _ rfl
  have x0_2 := X0.out _ HR 2 _ rfl
  have x0_3 := X0.out _ HR 3 _ rfl
  have x0_4 := X0.out _ HR 4 _ rfl
  have x0_5 := X0.out _ HR 5 _ rfl
  have x0_6 := X0.out _ HR 6 _ rfl
  have hfin : ∀ b W, X = b → Below w0.heap.size w0 W → Ending.returned (.bool b) = .returned (.bool X) ∧ Below w.heap.size w W := fun b W h1 h2 => ⟨by rw [h1], next_below HB0.out h2⟩
  cases m with
  | false =>
    go_wp2_with (go_at_call 15; (with_reducible refine (K1.out _ (by assumption)).mono ?_); rintro e w1 ⟨rfl, hb⟩; have hB := next_below (by assumption) hb; have x0_0 := X0.out _ hB 0 _ rfl; have x0_1 := X0.out _ hB 1 _ rfl; have x0_2 := X0.out _ hB 2 _ rfl; have x0_3 := X0.out _ hB 3 _ rfl; have x0_4 := X0.out _ hB 4 _ rfl; have x0_5 := X0.out _ hB 5 _ rfl; have x0_6 := X0.out _ hB 6 _ rfl; clear hb)
    all_goals go_ret
    all_goals exact hfin _ _ (by rw [HX.out]; simp) (by assumption)
  | true =>
    cases v with
    | false =>
      go_wp2_with first | (go_at_call 15; (with_reducible refine (K1.out _ (by assumption)).mono ?_); rintro e w1 ⟨rfl, hb⟩; have hB := next_below (by assumption) hb; have x0_0 := X0.out _ hB 0 _ rfl; have x0_1 := X0.out _ hB 1 _ rfl; have x0_2 := X0.out _ hB 2 _ rfl; have x0_3 := X0.out _ hB 3 _ rfl; have x0_4 := X0.out _ hB 4 _ rfl; have x0_5 := X0.out _ hB 5 _ rfl; have x0_6 := X0.out _ hB 6 _ rfl; clear hb) | (go_at_call 12; (with_reducible refine (K2.out _ (by assumption)).mono ?_); rintro e w1 ⟨rfl, hb⟩; have hB := next_below (by assumption) hb; have x0_0 := X0.out _ hB 0 _ rfl; have x0_1 := X0.out _ hB 1 _ rfl; have x0_2 := X0.out _ hB 2 _ rfl; have x0_3 := X0.out _ hB 3 _ rfl; have x0_4 := X0.out _ hB 4 _ rfl; have x0_5 := X0.out _ hB 5 _ rfl; have x0_6 := X0.out _ hB 6 _ rfl; clear hb)
      all_goals go_ret
      all_goals exact hfin _ _ (by rw [HX.out]; simp) (by assumption)
    | true =>
      go_upto_region 5 with first | (go_at_call 15; (with_reducible refine (K1.out _ (by assumption)).mono ?_); rintro e w1 ⟨rfl, hb⟩; have hB := next_below (by assumption) hb; have x0_0 := X0.out _ hB 0 _ rfl; have x0_1 := X0.out _ hB 1 _ rfl; have x0_2 := X0.out _ hB 2 _ rfl; have x0_3 := X0.out _ hB 3 _ rfl; have x0_4 := X0.out _ hB 4 _ rfl; have x0_5 := X0.out _ hB 5 _ rfl; have x0_6 := X0.out _ hB 6 _ rfl; clear hb) | (go_at_call 12; (with_reducible refine (K2.out _ (by assumption)).mono ?_); rintro e w1 ⟨rfl, hb⟩; have hB := next_below (by assumption) hb; have x0_0 := X0.out _ hB 0 _ rfl; have x0_1 := X0.out _ hB 1 _ rfl; have x0_2 := X0.out _ hB 2 _ rfl; have x0_3 := X0.out _ hB 3 _ rfl; have x0_4 := X0.out _ hB 4 _ rfl; have x0_5 := X0.out _ hB 5 _ rfl; have x0_6 := X0.out _ hB 6 _ rfl; clear hb) | (go_at_call 10; (first | (with_reducible refine (K3.out _ (by assumption)).mono ?_) | (with_reducible refine (K4.out _ (by assumption)).mono ?_)); rintro e w1 ⟨rfl, hb⟩; have hB := next_below (by assumption) hb; have x0_0 := X0.out _ hB 0 _ rfl; have x0_1 := X0.out _ hB 1 _ rfl; have x0_2 := X0.out _ hB 2 _ rfl; have x0_3 := X0.out _ hB 3 _ rfl; have x0_4 := X0.out _ hB 4 _ rfl; have x0_5 := X0.out _ hB 5 _ rfl; have x0_6 := X0.out _ hB 6 _ rfl; clear hb)
      cases i1 with
      | false =>
        cases i2 with
        | false =>
          go_wp2_with fail
          all_goals go_ret
          all_goals exact hfin _ _ (by rw [HX.out]; simp <;> omega) (by assumption)
        | true =>
          rcases (show y < 0 ∨ y = 0 ∨ 0 < y by omega) with h | h | h
          · have f1 : decide (y < 0) = true := decide_eq_true h
            have HY := Lib.hid h
            clear h
            go_wp2_with fail
            all_goals go_ret
            all_goals exact hfin _ _ (by rw [HX.out]; have := HY.out; simp <;> omega) (by assumption)
          · subst h
            cases p2
            all_goals go_wp2_with fail
            all_goals go_ret
            all_goals exact hfin _ _ (by rw [HX.out]; simp <;> omega) (by assumption)
          · have f1 : decide (y < 0) = false := decide_eq_false (by omega)
            have f2 : (y == 0) = false := by rw [beq_eq_false_iff_ne]; omega
            have HY := Lib.hid h
            clear h
            go_wp2_with fail
            all_goals go_ret
            all_goals exact hfin _ _ (by rw [HX.out]; have := HY.out; simp <;> omega) (by assumption)
      | true =>
        rcases (show x < 0 ∨ x = 0 ∨ 0 < x by omega) with h | h | h
        · have f1 : decide (x < 0) = true := decide_eq_true h
          have HZ := Lib.hid h
          clear h
          go_wp2_with fail
          all_goals go_ret
          all_goals exact hfin _ _ (by rw [HX.out]; have := HZ.out; simp <;> omega) (by assumption)
        · subst h
          cases p1 with
          | true =>
            go_wp2_with fail
            all_goals go_ret
            all_goals exact hfin _ _ (by rw [HX.out]; simp) (by assumption)
          | false =>
            cases i2 with
            | false =>
              go_wp2_with fail
              all_goals go_ret
              all_goals exact hfin _ _ (by rw [HX.out]; simp <;> omega) (by assumption)
            | true =>
              rcases (show y < 0 ∨ y = 0 ∨ 0 < y by omega) with h | h | h
              · have f1 : decide (y < 0) = true := decide_eq_true h
                have HY := Lib.hid h
                clear h
                go_wp2_with fail
                all_goals go_ret
                all_goals exact hfin _ _ (by rw [HX.out]; have := HY.out; simp <;> omega) (by assumption)
              · subst h
                cases p2
                all_goals go_wp2_with fail
                all_goals go_ret
                all_goals exact hfin _ _ (by rw [HX.out]; simp <;> omega) (by assumption)
              · have f1 : decide (y < 0) = false := decide_eq_false (by omega)
                have f2 : (y == 0) = false := by rw [beq_eq_false_iff_ne]; omega
                have HY := Lib.hid h
                clear h
                go_wp2_with fail
                all_goals go_ret
                all_goals exact hfin _ _ (by rw [HX.out]; have := HY.out; simp <;> omega) (by assumption)
        · have f1' : decide (x < 0) = false := decide_eq_false (by omega)
          have f2' : (x == 0) = false := by rw [beq_eq_false_iff_ne]; omega
          have HZ := Lib.hid h
          clear h
          cases i2 with
          | false =>
            go_wp2_with fail
            all_goals go_ret
            all_goals exact hfin _ _ (by rw [HX.out]; have hz := HZ.out; simp <;> omega) (by assumption)
          | true =>
            rcases (show y < 0 ∨ y = 0 ∨ 0 < y by omega) with h | h | h
            · have f1 : decide (y < 0) = true := decide_eq_true h
              have HY := Lib.hid h
              clear h
              go_wp2_with fail
              all_goals go_ret
              all_goals exact hfin _ _ (by rw [HX.out]; have hz := HZ.out; have := HY.out; simp <;> omega) (by assumption)
            · subst h
              cases p2
              all_goals go_wp2_with fail
              all_goals go_ret
              all_goals exact hfin _ _ (by rw [HX.out]; have hz := HZ.out; simp <;> omega) (by assumption)
            · have f1 : decide (y < 0) = false := decide_eq_false (by omega)
              have f2 : (y == 0) = false := by rw [beq_eq_false_iff_ne]; omega
              have HY := Lib.hid h
              clear h
              go_wp2_with fail
              all_goals go_ret
              all_goals exact hfin _ _ (by rw [HX.out]; have hz := HZ.out; have := HY.out; simp <;> omega) (by assumption)
end Go.Proofs.YtjdmhbfddklhnaaDoor
