/-
  The law file's awake of layer 11 over contracts of the program's package order. Conditions: those contracts.
-/
import Derived.Test.YtjdmhbfddklhnaaDoorOrdOk
set_option linter.unusedSimpArgs false
set_option linter.unusedVariables false
set_option maxRecDepth 100000
namespace Go.Proofs.YtjdmhbfddklhnaaDoor
open Go Go.Proofs Go.RowKit _root_.Ord11 Go.Proofs.YtjdmhbfddklhnaaDoor.Ord11

theorem sl_built (w : World) (l : List UInt8) (n : Nat) (c : Nat × Nat) (hl : l.length = n) (hn : n ≤ 1099511627776) : SlAt (w.alloc (.cells (Lib.byteCells l).toArray 5 c)) (w.heap.size + 1) (some ⟨w.heap.size, 0, none⟩) n n l := by
  refine ⟨⟨by rw [Lib.byteCells_length, hl, Nat.mul_one], fun _ => ⟨_, rfl, by simp, fun j u hj => ?_⟩⟩, hn, Nat.le_refl _⟩
  rw [show (⟨w.heap.size, 0, none⟩ : Addr).add j = ⟨w.heap.size, j, none⟩ from by unfold Addr.add; split <;> simp_all]
  rw [Lib.cell_of_heap (heap_alloc_new w _)]
  rw [List.getElem?_toArray]
  exact hj

set_option maxHeartbeats 4000000 in
theorem awake11_any {Q : World → Prop} (H : OrderOk Q) (w : World) (hQ : Q w) : Calls Tryd.prog 8 #[] w fun e w' => e = .returned (.bool true) ∧ Below w.heap.size w w' := by
  have k1 := Lib.run_convert_bytes_const (P := Tryd.prog) w 22 5 #[.int .u8 50] 1 1 Tryd.underlying22 Tryd.underlying5
  have k2 := Lib.run_convert_bytes_const (P := Tryd.prog) (w.alloc (.cells #[.int .u8 50] 5 (1, 2))) 22 5 #[.int .u8 49, .int .u8 48] 2 2 Tryd.underlying22 Tryd.underlying5
  rw [show (w.alloc (.cells #[.int .u8 50] 5 (1, 2))).heap.size = w.heap.size + 1 by simp] at k2
  obtain ⟨W, hW⟩ : ∃ W, W = ((w.alloc (.cells #[.int .u8 50] 5 (1, 2))).alloc (.cells #[.int .u8 49, .int .u8 48] 5 (2, 3))).alloc (.cells #[.int .u8 2, .bool true, .bool false, .slice (some ⟨w.heap.size, 0, none⟩) 1 1, .bool true, .bool true, .slice (some ⟨w.heap.size + 1, 0, none⟩) 2 2] 31) := ⟨_, rfl⟩
  have HBW : Hid (Below w.heap.size w W) := by
    show Below _ _ _
    rw [hW]
    exact (((Below.refl _ _).alloc (Nat.le_refl _) _).alloc (by simp) _).alloc (by simp; omega) _
  have s1 : SlAt W W.heap.size (some ⟨w.heap.size, 0, none⟩) 1 1 [50] := by
    have h := sl_built w [50] 1 (1, 2) rfl (by omega)
    have h2 := h.below (((Below.refl (w.heap.size + 1) (w.alloc (.cells #[.int .u8 50] 5 (1, 2)))).alloc (by simp) (.cells #[.int .u8 49, .int .u8 48] 5 (2, 3))).alloc (by simp) (.cells #[.int .u8 2, .bool true, .bool false, .slice (some ⟨w.heap.size, 0, none⟩) 1 1, .bool true, .bool true, .slice (some ⟨w.heap.size + 1, 0, none⟩) 2 2] 31))
    rw [hW]
    exact h2.more (by simp)
  have s2 : SlAt W W.heap.size (some ⟨w.heap.size + 1, 0, none⟩) 2 2 [49, 48] := by
    have h := sl_built (w.alloc (.cells #[.int .u8 50] 5 (1, 2))) [49, 48] 2 (2, 3) rfl (by omega)
    rw [show (w.alloc (.cells #[.int .u8 50] 5 (1, 2))).heap.size = w.heap.size + 1 by simp] at h
    have h2 := h.below ((Below.refl (w.heap.size + 1 + 1) _).alloc (by simp) (.cells #[.int .u8 2, .bool true, .bool false, .slice (some ⟨w.heap.size, 0, none⟩) 1 1, .bool true, .bool true, .slice (some ⟨w.heap.size + 1, 0, none⟩) 2 2] 31))
    rw [hW]
    exact h2.more (by simp)
  have HR : RgIs W ⟨2, ⟨true, false, [50]⟩, ⟨true, true, [49, 48]⟩⟩ #[.int .u8 2, .bool true, .bool false, .slice (some ⟨w.heap.size, 0, none⟩) 1 1, .bool true, .bool true, .slice (some ⟨w.heap.size + 1, 0, none⟩) 2 2] := ⟨_, _, _, _, _, _, rfl, by decide, s1, s2⟩
  have HX : Blk W (w.heap.size + 1 + 1) 31 #[.int .u8 2, .bool true, .bool false, .slice (some ⟨w.heap.size, 0, none⟩) 1 1, .bool true, .bool true, .slice (some ⟨w.heap.size + 1, 0, none⟩) 2 2] := by
    rw [hW]
    have h := Blk.new ((w.alloc (.cells #[.int .u8 50] 5 (1, 2))).alloc (.cells #[.int .u8 49, .int .u8 48] 5 (2, 3))) 31 #[.int .u8 2, .bool true, .bool false, .slice (some ⟨w.heap.size, 0, none⟩) 1 1, .bool true, .bool true, .slice (some ⟨w.heap.size + 1, 0, none⟩) 2 2]
    simpa using h
  have KX : Hid (∀ W', Below W.heap.size W W' → ∀ k u, (#[.int .u8 2, .bool true, .bool false, .slice (some ⟨w.heap.size, 0, none⟩) 1 1, .bool true, .bool true, .slice (some ⟨w.heap.size + 1, 0, none⟩) 2 2] : Array Value)[k]? = some u → W'.cell? ⟨w.heap.size + 1 + 1, k, none⟩ = some u) := fun W' hW' k u hk => cell_below hW' ((HX.cell k).trans hk) HX.lt
  have KI : Hid (∀ W', Below W.heap.size W W' → ∀ (l : List UInt8) (n : Nat), l.length = n → n ≤ 1000 → Calls Tryd.prog 16 #[.agg #[.int .u8 2, .bool true, .bool false, .slice (some ⟨w.heap.size, 0, none⟩) 1 1, .bool true, .bool true, .slice (some ⟨w.heap.size + 1, 0, none⟩) 2 2], .slice (some ⟨W'.heap.size, 0, none⟩) n n] (W'.alloc (.cells (Lib.byteCells l).toArray 5 (n, n + 1))) fun e w' => e = .returned (.bool (inR ordC ⟨2, ⟨true, false, [50]⟩, ⟨true, true, [49, 48]⟩⟩ l)) ∧ Below W.heap.size W w') := by
    intro W' hW' l n hl hn
    have hb : Below W'.heap.size W' (W'.alloc (.cells (Lib.byteCells l).toArray 5 (n, n + 1))) := (Below.refl _ _).alloc (Nat.le_refl _) _
    have hb2 := next_below hW' hb
    have hsl := (sl_built W' l n (n, n + 1) hl (by omega)).more (show W'.heap.size + 1 ≤ (W'.alloc (.cells (Lib.byteCells l).toArray 5 (n, n + 1))).heap.size by simp)
    refine (H.in_ (H.old hQ (next_below HBW.out hb2)) (HR.next hb2) hsl).mono ?_
    rintro e w' ⟨he, hb3⟩
    exact ⟨he, next_below hb2 hb3⟩
  clear HR HX s1 s2 hQ
  go_enter Tryd.func8, Tryd.ntmps8
  go_upto_region 2 with fail
  rw [← hW]
  clear hW k1 k2
  have HRf : Hid (Below W.heap.size W W) := Below.refl _ _
  have kc := Lib.run_convert_bytes_const (P := Tryd.prog) W 22 5 #[.int .u8 57, .int .u8 46, .int .u8 53] 3 3 Tryd.underlying22 Tryd.underlying5
  have x0 := KX.out _ HRf.out 0 _ rfl
  have x1 := KX.out _ HRf.out 1 _ rfl
  have x2 := KX.out _ HRf.out 2 _ rfl
  have x3 := KX.out _ HRf.out 3 _ rfl
  have x4 := KX.out _ HRf.out 4 _ rfl
  have x5 := KX.out _ HRf.out 5 _ rfl
  have x6 := KX.out _ HRf.out 6 _ rfl
  go_wp2_with fail
  refine (KI.out W HRf.out [57, 46, 53] 3 rfl (by omega)).mono ?_
  rintro e w1 ⟨rfl, hbw1⟩
  rw [show inR ordC ⟨2, ⟨true, false, [50]⟩, ⟨true, true, [49, 48]⟩⟩ [57, 46, 53] = true from rg_ex.1]
  have HBw1 := Lib.hid hbw1
  clear hbw1 kc x0 x1 x2 x3 x4 x5 x6
  have kc := Lib.run_convert_bytes_const (P := Tryd.prog) w1 22 5 #[.int .u8 49, .int .u8 48] 2 2 Tryd.underlying22 Tryd.underlying5
  have x0 := KX.out _ HBw1.out 0 _ rfl
  have x1 := KX.out _ HBw1.out 1 _ rfl
  have x2 := KX.out _ HBw1.out 2 _ rfl
  have x3 := KX.out _ HBw1.out 3 _ rfl
  have x4 := KX.out _ HBw1.out 4 _ rfl
  have x5 := KX.out _ HBw1.out 5 _ rfl
  have x6 := KX.out _ HBw1.out 6 _ rfl
  go_wp2_with fail
  refine (KI.out w1 HBw1.out [49, 48] 2 rfl (by omega)).mono ?_
  rintro e w2 ⟨rfl, hbw2⟩
  rw [show inR ordC ⟨2, ⟨true, false, [50]⟩, ⟨true, true, [49, 48]⟩⟩ [49, 48] = false from rg_ex.2.1]
  have HBw2 := Lib.hid hbw2
  clear hbw2 kc x0 x1 x2 x3 x4 x5 x6
  have kc := Lib.run_convert_bytes_const (P := Tryd.prog) w2 22 5 #[.int .u8 50, .int .u8 46, .int .u8 48] 3 3 Tryd.underlying22 Tryd.underlying5
  have x0 := KX.out _ HBw2.out 0 _ rfl
  have x1 := KX.out _ HBw2.out 1 _ rfl
  have x2 := KX.out _ HBw2.out 2 _ rfl
  have x3 := KX.out _ HBw2.out 3 _ rfl
  have x4 := KX.out _ HBw2.out 4 _ rfl
  have x5 := KX.out _ HBw2.out 5 _ rfl
  have x6 := KX.out _ HBw2.out 6 _ rfl
  go_wp2_with fail
  refine (KI.out w2 HBw2.out [50, 46, 48] 3 rfl (by omega)).mono ?_
  rintro e w3 ⟨rfl, hbw3⟩
  rw [show inR ordC ⟨2, ⟨true, false, [50]⟩, ⟨true, true, [49, 48]⟩⟩ [50, 46, 48] = true from rg_ex.2.2]
  have HBw3 := Lib.hid hbw3
  clear hbw3 kc x0 x1 x2 x3 x4 x5 x6
  go_wp2_with fail
  go_ret
  exact ⟨rfl, next_below HBW.out HBw3.out⟩
end Go.Proofs.YtjdmhbfddklhnaaDoor
