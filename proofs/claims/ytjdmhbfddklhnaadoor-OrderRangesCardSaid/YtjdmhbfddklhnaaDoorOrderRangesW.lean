/-
  The walk of the law OrderRanges over contracts of the program's package order. Conditions: those contracts.
-/
import Derived.Test.YtjdmhbfddklhnaaDoorOrdAwake
import Derived.Test.YtjdmhbfddklhnaaDoorAuto
set_option linter.unusedVariables false
set_option linter.unusedSimpArgs false
set_option maxRecDepth 100000
namespace Go.Proofs.YtjdmhbfddklhnaaDoor
open Go Go.Proofs Go.RowKit _root_.Ord11 Go.Proofs.YtjdmhbfddklhnaaDoor.Ord11
open Sch (wp_R gr_val gr_is gr_fresh gr_nil gr_on gr_onV gr_offV op_callR Rk)

set_option maxHeartbeats 8000000 in
theorem oranges_walk {Q : World → Prop} (H : OrderOk Q) (r : Rg) (ho : r.o < 256) {A1 A2 A3 : Option Addr} {n1 c1 n2 c2 n3 c3 : Nat} {b : List UInt8} (w : World) (hQ : Q w) (r1 : Reads w w.heap.size 1 A1 n1 (Lib.byteCells r.lo.at_)) (k1 : n1 ≤ c1) (r2 : Reads w w.heap.size 1 A2 n2 (Lib.byteCells r.hi.at_)) (k2 : n2 ≤ c2) (r3 : Reads w w.heap.size 1 A3 n3 (Lib.byteCells b)) (k3 : n3 ≤ c3) :
    Calls Tryd.prog 4 #[.agg (rgC r A1 n1 c1 A2 n2 c2), .slice A3 n3 c3] w fun e w' => e = .returned (.bool true) ∧ Below w.heap.size w w' := by
  obtain ⟨oa, ⟨ia1, pa1, l1⟩, ⟨ia2, pa2, l2⟩⟩ := r
  dsimp only at ho r1 r2
  obtain ⟨w0, hw0⟩ : ∃ w0, w0 = (w.alloc (.cells #[.int .u8 oa, .bool ia1, .bool pa1, .slice A1 n1 c1, .bool ia2, .bool pa2, .slice A2 n2 c2] 31)) := ⟨_, rfl⟩
  have HB0 : Hid (Below w.heap.size w w0) := by
    show Below _ _ _
    rw [hw0]
    exact (Below.refl w.heap.size w).alloc (Nat.le_refl _) _
  have B0 : Blk w0 w.heap.size 31 #[.int .u8 oa, .bool ia1, .bool pa1, .slice A1 n1 c1, .bool ia2, .bool pa2, .slice A2 n2 c2] := by
    rw [hw0]
    exact Blk.new w 31 #[.int .u8 oa, .bool ia1, .bool pa1, .slice A1 n1 c1, .bool ia2, .bool pa2, .slice A2 n2 c2]
  have X0 : Hid (∀ W, Below w0.heap.size w0 W → ∀ k u, (#[.int .u8 oa, .bool ia1, .bool pa1, .slice A1 n1 c1, .bool ia2, .bool pa2, .slice A2 n2 c2] : Array Value)[k]? = some u → W.cell? ⟨w.heap.size, k, none⟩ = some u) := fun W hW k u hk => cell_below hW ((B0.cell k).trans hk) B0.lt
  have HR : Below w0.heap.size w0 w0 := Below.refl _ _
  clear B0
  have KA : Hid (∀ W, Below w0.heap.size w0 W → Calls Tryd.prog 8 #[] W fun e w' => e = .returned (.bool true) ∧ Below W.heap.size W w') := by
    intro W hW
    exact awake11_any H W (H.old hQ (next_below HB0.out hW))
  have KG : Hid (∀ W, Below w0.heap.size w0 W → Calls Tryd.prog 13 #[.agg #[.int .u8 oa, .bool ia1, .bool pa1, .slice A1 n1 c1, .bool ia2, .bool pa2, .slice A2 n2 c2]] W fun e w' => e = .returned (.bool (decide (200 < n1) || decide (200 < n2))) ∧ Below W.heap.size W w') := fun W hW => refGreat11 ⟨oa, ⟨ia1, pa1, l1⟩, ⟨ia2, pa2, l2⟩⟩ A1 A2 n1 c1 n2 c2 W
  obtain ⟨gt, hgt⟩ : ∃ x, x = (decide (200 < n1) || decide (200 < n2)) := ⟨_, rfl⟩
  rw [← hgt] at KG
  unfold rgC
  have HQ := Lib.hid hQ
  by_cases hbig : gt = true ∨ 200 < n3
  · have h3 : gt = false → 200 < n3 := fun h => by
      rcases hbig with h2 | h2
      · rw [h2] at h; cases h
      · exact h2
    clear hbig hgt r1 r2 r3
    go_enter Tryd.func4, Tryd.ntmps4
    go_upto_region 1 with fail
    rw [← hw0]
    clear hw0
    have x0_0 := X0.out _ HR 0 _ rfl
    have x0_1 := X0.out _ HR 1 _ rfl
    have x0_2 := X0.out _ HR 2 _ rfl
    have x0_3 := X0.out _ HR 3 _ rfl
    have x0_4 := X0.out _ HR 4 _ rfl
    have x0_5 := X0.out _ HR 5 _ rfl
    have x0_6 := X0.out _ HR 6 _ rfl

    cases gt with
    | true =>
      go_wp2_with first | (go_at_call 13; (with_reducible refine (KG.out _ (by assumption)).mono ?_); rintro e w1 ⟨rfl, hb⟩; have hB := next_below (by assumption) hb; have x0_0 := X0.out _ hB 0 _ rfl; have x0_1 := X0.out _ hB 1 _ rfl; have x0_2 := X0.out _ hB 2 _ rfl; have x0_3 := X0.out _ hB 3 _ rfl; have x0_4 := X0.out _ hB 4 _ rfl; have x0_5 := X0.out _ hB 5 _ rfl; have x0_6 := X0.out _ hB 6 _ rfl; clear hb) | (go_at_call 8; (with_reducible refine (KA.out _ (by assumption)).mono ?_); rintro e w1 ⟨rfl, hb⟩; have hB := next_below (by assumption) hb; have x0_0 := X0.out _ hB 0 _ rfl; have x0_1 := X0.out _ hB 1 _ rfl; have x0_2 := X0.out _ hB 2 _ rfl; have x0_3 := X0.out _ hB 3 _ rfl; have x0_4 := X0.out _ hB 4 _ rfl; have x0_5 := X0.out _ hB 5 _ rfl; have x0_6 := X0.out _ hB 6 _ rfl; clear hb)
      go_ret
      exact ⟨rfl, next_below HB0.out (by assumption)⟩
    | false =>
      have h3' := h3 rfl
      clear h3
      go_wp2_with first | (go_at_call 13; (with_reducible refine (KG.out _ (by assumption)).mono ?_); rintro e w1 ⟨rfl, hb⟩; have hB := next_below (by assumption) hb; have x0_0 := X0.out _ hB 0 _ rfl; have x0_1 := X0.out _ hB 1 _ rfl; have x0_2 := X0.out _ hB 2 _ rfl; have x0_3 := X0.out _ hB 3 _ rfl; have x0_4 := X0.out _ hB 4 _ rfl; have x0_5 := X0.out _ hB 5 _ rfl; have x0_6 := X0.out _ hB 6 _ rfl; clear hb) | (go_at_call 8; (with_reducible refine (KA.out _ (by assumption)).mono ?_); rintro e w1 ⟨rfl, hb⟩; have hB := next_below (by assumption) hb; have x0_0 := X0.out _ hB 0 _ rfl; have x0_1 := X0.out _ hB 1 _ rfl; have x0_2 := X0.out _ hB 2 _ rfl; have x0_3 := X0.out _ hB 3 _ rfl; have x0_4 := X0.out _ hB 4 _ rfl; have x0_5 := X0.out _ hB 5 _ rfl; have x0_6 := X0.out _ hB 6 _ rfl; clear hb)
      go_ret
      exact ⟨rfl, next_below HB0.out (by assumption)⟩
  have hg0 : gt = false := by
    cases gt with
    | true => exact absurd (.inl rfl) hbig
    | false => rfl
  have h3 : ¬ 200 < n3 := fun h => hbig (.inr h)
  rw [hg0] at hgt
  have hn : n1 ≤ 200 ∧ n2 ≤ 200 := by
    have h := hgt.symm
    simp at h
    exact h
  have s1 : SlAt w w.heap.size A1 n1 c1 l1 := ⟨r1, by omega, k1⟩
  have s2 : SlAt w w.heap.size A2 n2 c2 l2 := ⟨r2, by omega, k2⟩
  have s3 : SlAt w w.heap.size A3 n3 c3 b := ⟨r3, by omega, k3⟩
  have hr : RgIs w ⟨oa, ⟨ia1, pa1, l1⟩, ⟨ia2, pa2, l2⟩⟩ #[.int .u8 oa, .bool ia1, .bool pa1, .slice A1 n1 c1, .bool ia2, .bool pa2, .slice A2 n2 c2] := ⟨_, _, _, _, _, _, rfl, ho, s1, s2⟩
  subst hg0
  obtain ⟨m, hm⟩ : ∃ m, m = mayR ordC ⟨oa, ⟨ia1, pa1, l1⟩, ⟨ia2, pa2, l2⟩⟩ := ⟨_, rfl⟩
  obtain ⟨i, hi⟩ : ∃ i, i = inR ordC ⟨oa, ⟨ia1, pa1, l1⟩, ⟨ia2, pa2, l2⟩⟩ b := ⟨_, rfl⟩
  obtain ⟨v, hv⟩ : ∃ v, v = emptyR ordC ⟨oa, ⟨ia1, pa1, l1⟩, ⟨ia2, pa2, l2⟩⟩ := ⟨_, rfl⟩
  have hne : v = true → i = false := fun h => by rw [hi]; exact empty_none ordC_lawful b (by rw [← hv]; exact h)
  have K1 : Hid (∀ W, Below w0.heap.size w0 W → Calls Tryd.prog 14 #[.agg #[.int .u8 oa, .bool ia1, .bool pa1, .slice A1 n1 c1, .bool ia2, .bool pa2, .slice A2 n2 c2]] W fun e w' => e = .returned (.bool m) ∧ Below W.heap.size W w') := by
    intro W hW
    have hW' := next_below HB0.out hW
    rw [hm]; exact H.may (H.old HQ.out hW') (hr.next hW')
  have K2 : Hid (∀ W, Below w0.heap.size w0 W → Calls Tryd.prog 15 #[.agg #[.int .u8 oa, .bool ia1, .bool pa1, .slice A1 n1 c1, .bool ia2, .bool pa2, .slice A2 n2 c2]] W fun e w' => e = .returned (.bool m) ∧ Below W.heap.size W w') := by
    intro W hW
    have hW' := next_below HB0.out hW
    rw [hm]; exact rMay (hr.next hW')
  have K3 : Hid (∀ W, Below w0.heap.size w0 W → Calls Tryd.prog 16 #[.agg #[.int .u8 oa, .bool ia1, .bool pa1, .slice A1 n1 c1, .bool ia2, .bool pa2, .slice A2 n2 c2], .slice A3 n3 c3] W fun e w' => e = .returned (.bool i) ∧ Below W.heap.size W w') := by
    intro W hW
    have hW' := next_below HB0.out hW
    rw [hi]; exact H.in_ (H.old HQ.out hW') (hr.next hW') (s3.next hW')
  have K4 : Hid (∀ W, Below w0.heap.size w0 W → Calls Tryd.prog 17 #[.agg #[.int .u8 oa, .bool ia1, .bool pa1, .slice A1 n1 c1, .bool ia2, .bool pa2, .slice A2 n2 c2], .slice A3 n3 c3] W fun e w' => e = .returned (.bool i) ∧ Below W.heap.size W w') := by
    intro W hW
    have hW' := next_below HB0.out hW
    rw [hi]; exact rIn (hr.next hW') (s3.next hW')
  have K5 : Hid (∀ W, Below w0.heap.size w0 W → Calls Tryd.prog 18 #[.agg #[.int .u8 oa, .bool ia1, .bool pa1, .slice A1 n1 c1, .bool ia2, .bool pa2, .slice A2 n2 c2]] W fun e w' => e = .returned (.bool v) ∧ Below W.heap.size W w') := by
    intro W hW
    have hW' := next_below HB0.out hW
    rw [hv]; exact H.empty (H.old HQ.out hW') (hr.next hW')
  have K6 : Hid (∀ W, Below w0.heap.size w0 W → Calls Tryd.prog 19 #[.agg #[.int .u8 oa, .bool ia1, .bool pa1, .slice A1 n1 c1, .bool ia2, .bool pa2, .slice A2 n2 c2]] W fun e w' => e = .returned (.bool v) ∧ Below W.heap.size W w') := by
    intro W hW
    have hW' := next_below HB0.out hW
    rw [hv]; exact rEmpty (hr.next hW')
  clear hm hi hv hr s1 s2 s3 hn hbig hgt r1 r2 r3 hQ
  go_enter Tryd.func4, Tryd.ntmps4
  go_upto_region 1 with fail
  rw [← hw0]
  clear hw0
  have x0_0 := X0.out _ HR 0 _ rfl
  have x0_1 := X0.out _ HR 1 _ rfl
  have x0_2 := X0.out _ HR 2 _ rfl
  have x0_3 := X0.out _ HR 3 _ rfl
  have x0_4 := X0.out _ HR 4 _ rfl
  have x0_5 := X0.out _ HR 5 _ rfl
  have x0_6 := X0.out _ HR 6 _ rfl
  go_upto_region 3 with (go_at_call 13; (with_reducible refine (KG.out _ (by assumption)).mono ?_); rintro e w1 ⟨rfl, hb⟩; have hB := next_below (by assumption) hb; have x0_0 := X0.out _ hB 0 _ rfl; have x0_1 := X0.out _ hB 1 _ rfl; have x0_2 := X0.out _ hB 2 _ rfl; have x0_3 := X0.out _ hB 3 _ rfl; have x0_4 := X0.out _ hB 4 _ rfl; have x0_5 := X0.out _ hB 5 _ rfl; have x0_6 := X0.out _ hB 6 _ rfl; clear hb)
  clear x0_0 x0_1 x0_2 x0_3 x0_4 x0_5 x0_6
  cases m <;> cases i <;> cases v
  · refine wp_R [13, 14, 15, 16, 17, 18, 19, 20, 21, 22, 23, 24, 25, 26, 27, 28, 29, 30, 31, 32, 33, 34, 35, 36, 37, 38, 39, 40, 41, 42, 43, 44, 45, 46, 47, 4] [Rk.val (.agg #[.int .u8 oa, .bool ia1, .bool pa1, .slice A1 n1 c1, .bool ia2, .bool pa2, .slice A2 n2 c2]), Rk.val (.bool false), Rk.val (.agg #[.int .u8 oa, .bool ia1, .bool pa1, .slice A1 n1 c1, .bool ia2, .bool pa2, .slice A2 n2 c2]), Rk.val (.bool false), Rk.val (.bool true), Rk.val (.bool true), Rk.val (.agg #[.int .u8 oa, .bool ia1, .bool pa1, .slice A1 n1 c1, .bool ia2, .bool pa2, .slice A2 n2 c2]), Rk.val (.slice A3 n3 c3), Rk.val (.bool false), Rk.val (.agg #[.int .u8 oa, .bool ia1, .bool pa1, .slice A1 n1 c1, .bool ia2, .bool pa2, .slice A2 n2 c2]), Rk.val (.slice A3 n3 c3), Rk.val (.bool false), Rk.val (.bool true), Rk.val (.bool true), Rk.val (.bool true), Rk.val (.agg #[.int .u8 oa, .bool ia1, .bool pa1, .slice A1 n1 c1, .bool ia2, .bool pa2, .slice A2 n2 c2]), Rk.val (.bool false), Rk.val (.agg #[.int .u8 oa, .bool ia1, .bool pa1, .slice A1 n1 c1, .bool ia2, .bool pa2, .slice A2 n2 c2]), Rk.val (.bool false), Rk.val (.bool true), Rk.val (.bool true), Rk.val (.bool true), Rk.val (.agg #[.int .u8 oa, .bool ia1, .bool pa1, .slice A1 n1 c1, .bool ia2, .bool pa2, .slice A2 n2 c2]), Rk.val (.bool false), Rk.val (.bool true), Rk.val (.bool true), Rk.val undef, Rk.val undef, Rk.val undef, Rk.val undef, Rk.val (.bool true), Rk.val (.bool true), Rk.val (.bool true), Rk.val (.bool true), Rk.val (.bool true), Rk.val (.bool true)] rfl (by kernel_rfl) (by kernel_rfl) (by kernel_rfl) (by kernel_rfl) ?hg1 _ (by rfl) ?hf1
    case hg1 =>
      refine gr_val rfl (by kernel_rfl) (fun a V H K Q hK => op_quiet (quiet_agg _ (.tmp 2) _ 0 (H.old 2 (by kernel_rfl) (by kernel_rfl)) #[.int .u8 oa, .bool ia1, .bool pa1, .slice A1 n1 c1, .bool ia2, .bool pa2, .slice A2 n2 c2] (fun j v hj => X0.out _ (next_below hB H.frame) _ v (part_at 0 ⟨_, rfl⟩ j v hj)) Tryd.underlying31 rfl (by kernel_rfl) (by kernel_rfl)) hK) ?_
      refine gr_val rfl (by kernel_rfl) (fun a V H K Q hK => op_callK _ #[.agg #[.int .u8 oa, .bool ia1, .bool pa1, .slice A1 n1 c1, .bool ia2, .bool pa2, .slice A2 n2 c2]] (by kernel_rfl) (by kernel_rfl) (by kernel_rfl) (map1 (H.rel 0 13 (by kernel_rfl) (by kernel_rfl) rfl)) (K1.out _ (next_below hB H.frame)) (by kernel_rfl) hK) ?_
      refine gr_val rfl (by kernel_rfl) (fun a V H K Q hK => op_quiet (quiet_agg _ (.tmp 2) _ 0 (H.old 2 (by kernel_rfl) (by kernel_rfl)) #[.int .u8 oa, .bool ia1, .bool pa1, .slice A1 n1 c1, .bool ia2, .bool pa2, .slice A2 n2 c2] (fun j v hj => X0.out _ (next_below hB H.frame) _ v (part_at 0 ⟨_, rfl⟩ j v hj)) Tryd.underlying31 rfl (by kernel_rfl) (by kernel_rfl)) hK) ?_
      refine gr_val rfl (by kernel_rfl) (fun a V H K Q hK => op_callK _ #[.agg #[.int .u8 oa, .bool ia1, .bool pa1, .slice A1 n1 c1, .bool ia2, .bool pa2, .slice A2 n2 c2]] (by kernel_rfl) (by kernel_rfl) (by kernel_rfl) (map1 (H.rel 2 15 (by kernel_rfl) (by kernel_rfl) rfl)) (K2.out _ (next_below hB H.frame)) (by kernel_rfl) hK) ?_
      refine gr_val rfl (by kernel_rfl) (fun a V H K Q hK => op_quiet (quiet_eqlB (.tmp 14) (.tmp 16) false false true 4 4 Tryd.underlying4 rfl (H.rel 1 14 (by kernel_rfl) (by kernel_rfl) rfl) (H.rel 3 16 (by kernel_rfl) (by kernel_rfl) rfl) (by kernel_rfl)) hK) ?_
      refine gr_val rfl (by kernel_rfl) (fun a V H K Q hK => op_quiet (quiet_move (.tmp 17) (H.rel 4 17 (by kernel_rfl) (by kernel_rfl) rfl) (.inl rfl)) hK) ?_
      refine gr_onV (j := 5) (d := 18) (want := true) (u := .bool true) rfl (by kernel_rfl) (by kernel_rfl) (fun a V H => (H.rel 5 18 (by kernel_rfl) (by kernel_rfl) rfl)) (by kernel_rfl) (fun a V H K Q hK => op_quiet (quiet_agg _ (.tmp 2) _ 0 (H.old 2 (by kernel_rfl) (by kernel_rfl)) #[.int .u8 oa, .bool ia1, .bool pa1, .slice A1 n1 c1, .bool ia2, .bool pa2, .slice A2 n2 c2] (fun j v hj => X0.out _ (next_below hB H.frame) _ v (part_at 0 ⟨_, rfl⟩ j v hj)) Tryd.underlying31 rfl (by kernel_rfl) (by kernel_rfl)) hK) ?_
      refine gr_onV (j := 5) (d := 18) (want := true) (u := .bool true) rfl (by kernel_rfl) (by kernel_rfl) (fun a V H => (H.rel 5 18 (by kernel_rfl) (by kernel_rfl) rfl)) (by kernel_rfl) (fun a V H K Q hK => op_quiet (quiet_move (.tmp 1) (H.old 1 (by kernel_rfl) (by kernel_rfl)) (.inl rfl)) hK) ?_
      refine gr_onV (j := 5) (d := 18) (want := true) (u := .bool true) rfl (by kernel_rfl) (by kernel_rfl) (fun a V H => (H.rel 5 18 (by kernel_rfl) (by kernel_rfl) rfl)) (by kernel_rfl) (fun a V H K Q hK => op_callK _ #[.agg #[.int .u8 oa, .bool ia1, .bool pa1, .slice A1 n1 c1, .bool ia2, .bool pa2, .slice A2 n2 c2], .slice A3 n3 c3] (by kernel_rfl) (by kernel_rfl) (by kernel_rfl) (map2 (H.rel 6 19 (by kernel_rfl) (by kernel_rfl) rfl) (H.rel 7 20 (by kernel_rfl) (by kernel_rfl) rfl)) (K3.out _ (next_below hB H.frame)) (by kernel_rfl) hK) ?_
      refine gr_onV (j := 5) (d := 18) (want := true) (u := .bool true) rfl (by kernel_rfl) (by kernel_rfl) (fun a V H => (H.rel 5 18 (by kernel_rfl) (by kernel_rfl) rfl)) (by kernel_rfl) (fun a V H K Q hK => op_quiet (quiet_agg _ (.tmp 2) _ 0 (H.old 2 (by kernel_rfl) (by kernel_rfl)) #[.int .u8 oa, .bool ia1, .bool pa1, .slice A1 n1 c1, .bool ia2, .bool pa2, .slice A2 n2 c2] (fun j v hj => X0.out _ (next_below hB H.frame) _ v (part_at 0 ⟨_, rfl⟩ j v hj)) Tryd.underlying31 rfl (by kernel_rfl) (by kernel_rfl)) hK) ?_
      refine gr_onV (j := 5) (d := 18) (want := true) (u := .bool true) rfl (by kernel_rfl) (by kernel_rfl) (fun a V H => (H.rel 5 18 (by kernel_rfl) (by kernel_rfl) rfl)) (by kernel_rfl) (fun a V H K Q hK => op_quiet (quiet_move (.tmp 1) (H.old 1 (by kernel_rfl) (by kernel_rfl)) (.inl rfl)) hK) ?_
      refine gr_onV (j := 5) (d := 18) (want := true) (u := .bool true) rfl (by kernel_rfl) (by kernel_rfl) (fun a V H => (H.rel 5 18 (by kernel_rfl) (by kernel_rfl) rfl)) (by kernel_rfl) (fun a V H K Q hK => op_callK _ #[.agg #[.int .u8 oa, .bool ia1, .bool pa1, .slice A1 n1 c1, .bool ia2, .bool pa2, .slice A2 n2 c2], .slice A3 n3 c3] (by kernel_rfl) (by kernel_rfl) (by kernel_rfl) (map2 (H.rel 9 22 (by kernel_rfl) (by kernel_rfl) rfl) (H.rel 10 23 (by kernel_rfl) (by kernel_rfl) rfl)) (K4.out _ (next_below hB H.frame)) (by kernel_rfl) hK) ?_
      refine gr_onV (j := 5) (d := 18) (want := true) (u := .bool true) rfl (by kernel_rfl) (by kernel_rfl) (fun a V H => (H.rel 5 18 (by kernel_rfl) (by kernel_rfl) rfl)) (by kernel_rfl) (fun a V H K Q hK => op_quiet (quiet_eqlB (.tmp 21) (.tmp 24) false false true 4 4 Tryd.underlying4 rfl (H.rel 8 21 (by kernel_rfl) (by kernel_rfl) rfl) (H.rel 11 24 (by kernel_rfl) (by kernel_rfl) rfl) (by kernel_rfl)) hK) ?_
      refine gr_val rfl (by kernel_rfl) (fun a V H K Q hK => op_quiet (quiet_pickT (.tmp 18) (.tmp 25) (.const (.bool false)) (H.rel 5 18 (by kernel_rfl) (by kernel_rfl) rfl) (H.rel 12 25 (by kernel_rfl) (by kernel_rfl) rfl) (by kernel_rfl)) hK) ?_
      refine gr_val rfl (by kernel_rfl) (fun a V H K Q hK => op_quiet (quiet_move (.tmp 26) (H.rel 13 26 (by kernel_rfl) (by kernel_rfl) rfl) (.inl rfl)) hK) ?_
      refine gr_onV (j := 14) (d := 27) (want := true) (u := .bool true) rfl (by kernel_rfl) (by kernel_rfl) (fun a V H => (H.rel 14 27 (by kernel_rfl) (by kernel_rfl) rfl)) (by kernel_rfl) (fun a V H K Q hK => op_quiet (quiet_agg _ (.tmp 2) _ 0 (H.old 2 (by kernel_rfl) (by kernel_rfl)) #[.int .u8 oa, .bool ia1, .bool pa1, .slice A1 n1 c1, .bool ia2, .bool pa2, .slice A2 n2 c2] (fun j v hj => X0.out _ (next_below hB H.frame) _ v (part_at 0 ⟨_, rfl⟩ j v hj)) Tryd.underlying31 rfl (by kernel_rfl) (by kernel_rfl)) hK) ?_
      refine gr_onV (j := 14) (d := 27) (want := true) (u := .bool true) rfl (by kernel_rfl) (by kernel_rfl) (fun a V H => (H.rel 14 27 (by kernel_rfl) (by kernel_rfl) rfl)) (by kernel_rfl) (fun a V H K Q hK => op_callK _ #[.agg #[.int .u8 oa, .bool ia1, .bool pa1, .slice A1 n1 c1, .bool ia2, .bool pa2, .slice A2 n2 c2]] (by kernel_rfl) (by kernel_rfl) (by kernel_rfl) (map1 (H.rel 15 28 (by kernel_rfl) (by kernel_rfl) rfl)) (K5.out _ (next_below hB H.frame)) (by kernel_rfl) hK) ?_
      refine gr_onV (j := 14) (d := 27) (want := true) (u := .bool true) rfl (by kernel_rfl) (by kernel_rfl) (fun a V H => (H.rel 14 27 (by kernel_rfl) (by kernel_rfl) rfl)) (by kernel_rfl) (fun a V H K Q hK => op_quiet (quiet_agg _ (.tmp 2) _ 0 (H.old 2 (by kernel_rfl) (by kernel_rfl)) #[.int .u8 oa, .bool ia1, .bool pa1, .slice A1 n1 c1, .bool ia2, .bool pa2, .slice A2 n2 c2] (fun j v hj => X0.out _ (next_below hB H.frame) _ v (part_at 0 ⟨_, rfl⟩ j v hj)) Tryd.underlying31 rfl (by kernel_rfl) (by kernel_rfl)) hK) ?_
      refine gr_onV (j := 14) (d := 27) (want := true) (u := .bool true) rfl (by kernel_rfl) (by kernel_rfl) (fun a V H => (H.rel 14 27 (by kernel_rfl) (by kernel_rfl) rfl)) (by kernel_rfl) (fun a V H K Q hK => op_callK _ #[.agg #[.int .u8 oa, .bool ia1, .bool pa1, .slice A1 n1 c1, .bool ia2, .bool pa2, .slice A2 n2 c2]] (by kernel_rfl) (by kernel_rfl) (by kernel_rfl) (map1 (H.rel 17 30 (by kernel_rfl) (by kernel_rfl) rfl)) (K6.out _ (next_below hB H.frame)) (by kernel_rfl) hK) ?_
      refine gr_onV (j := 14) (d := 27) (want := true) (u := .bool true) rfl (by kernel_rfl) (by kernel_rfl) (fun a V H => (H.rel 14 27 (by kernel_rfl) (by kernel_rfl) rfl)) (by kernel_rfl) (fun a V H K Q hK => op_quiet (quiet_eqlB (.tmp 29) (.tmp 31) false false true 4 4 Tryd.underlying4 rfl (H.rel 16 29 (by kernel_rfl) (by kernel_rfl) rfl) (H.rel 18 31 (by kernel_rfl) (by kernel_rfl) rfl) (by kernel_rfl)) hK) ?_
      refine gr_val rfl (by kernel_rfl) (fun a V H K Q hK => op_quiet (quiet_pickT (.tmp 27) (.tmp 32) (.const (.bool false)) (H.rel 14 27 (by kernel_rfl) (by kernel_rfl) rfl) (H.rel 19 32 (by kernel_rfl) (by kernel_rfl) rfl) (by kernel_rfl)) hK) ?_
      refine gr_val rfl (by kernel_rfl) (fun a V H K Q hK => op_quiet (quiet_move (.tmp 33) (H.rel 20 33 (by kernel_rfl) (by kernel_rfl) rfl) (.inl rfl)) hK) ?_
      refine gr_onV (j := 21) (d := 34) (want := true) (u := .bool true) rfl (by kernel_rfl) (by kernel_rfl) (fun a V H => (H.rel 21 34 (by kernel_rfl) (by kernel_rfl) rfl)) (by kernel_rfl) (fun a V H K Q hK => op_quiet (quiet_agg _ (.tmp 2) _ 0 (H.old 2 (by kernel_rfl) (by kernel_rfl)) #[.int .u8 oa, .bool ia1, .bool pa1, .slice A1 n1 c1, .bool ia2, .bool pa2, .slice A2 n2 c2] (fun j v hj => X0.out _ (next_below hB H.frame) _ v (part_at 0 ⟨_, rfl⟩ j v hj)) Tryd.underlying31 rfl (by kernel_rfl) (by kernel_rfl)) hK) ?_
      refine gr_onV (j := 21) (d := 34) (want := true) (u := .bool true) rfl (by kernel_rfl) (by kernel_rfl) (fun a V H => (H.rel 21 34 (by kernel_rfl) (by kernel_rfl) rfl)) (by kernel_rfl) (fun a V H K Q hK => op_callK _ #[.agg #[.int .u8 oa, .bool ia1, .bool pa1, .slice A1 n1 c1, .bool ia2, .bool pa2, .slice A2 n2 c2]] (by kernel_rfl) (by kernel_rfl) (by kernel_rfl) (map1 (H.rel 22 35 (by kernel_rfl) (by kernel_rfl) rfl)) (K5.out _ (next_below hB H.frame)) (by kernel_rfl) hK) ?_
      refine gr_onV (j := 21) (d := 34) (want := true) (u := .bool true) rfl (by kernel_rfl) (by kernel_rfl) (fun a V H => (H.rel 21 34 (by kernel_rfl) (by kernel_rfl) rfl)) (by kernel_rfl) (fun a V H K Q hK => op_quiet (quiet_not 4 (.tmp 36) (H.rel 23 36 (by kernel_rfl) (by kernel_rfl) rfl) (by kernel_rfl)) hK) ?_
      refine gr_onV (j := 21) (d := 34) (want := true) (u := .bool true) rfl (by kernel_rfl) (by kernel_rfl) (fun a V H => (H.rel 21 34 (by kernel_rfl) (by kernel_rfl) rfl)) (by kernel_rfl) (fun a V H K Q hK => op_quiet (quiet_move (.tmp 37) (H.rel 24 37 (by kernel_rfl) (by kernel_rfl) rfl) (.inl rfl)) hK) ?_
      refine gr_offV (j := 25) (d := 38) (want := false) (u := .bool true) rfl (by kernel_rfl) (by kernel_rfl) (fun a V H => (H.rel 25 38 (by kernel_rfl) (by kernel_rfl) rfl)) (by kernel_rfl) ?_
      refine gr_offV (j := 25) (d := 38) (want := false) (u := .bool true) rfl (by kernel_rfl) (by kernel_rfl) (fun a V H => (H.rel 25 38 (by kernel_rfl) (by kernel_rfl) rfl)) (by kernel_rfl) ?_
      refine gr_offV (j := 25) (d := 38) (want := false) (u := .bool true) rfl (by kernel_rfl) (by kernel_rfl) (fun a V H => (H.rel 25 38 (by kernel_rfl) (by kernel_rfl) rfl)) (by kernel_rfl) ?_
      refine gr_offV (j := 25) (d := 38) (want := false) (u := .bool true) rfl (by kernel_rfl) (by kernel_rfl) (fun a V H => (H.rel 25 38 (by kernel_rfl) (by kernel_rfl) rfl)) (by kernel_rfl) ?_
      refine gr_onV (j := 21) (d := 34) (want := true) (u := .bool true) rfl (by kernel_rfl) (by kernel_rfl) (fun a V H => (H.rel 21 34 (by kernel_rfl) (by kernel_rfl) rfl)) (by kernel_rfl) (fun a V H K Q hK => op_quiet (quiet_pickT (.tmp 38) (.const (.bool true)) (.tmp 42) (H.rel 25 38 (by kernel_rfl) (by kernel_rfl) rfl) (show a.eval (.const (.bool true)) = .bool true from rfl) (by kernel_rfl)) hK) ?_
      refine gr_val rfl (by kernel_rfl) (fun a V H K Q hK => op_quiet (quiet_pickT (.tmp 34) (.tmp 43) (.const (.bool false)) (H.rel 21 34 (by kernel_rfl) (by kernel_rfl) rfl) (H.rel 30 43 (by kernel_rfl) (by kernel_rfl) rfl) (by kernel_rfl)) hK) ?_
      refine gr_val rfl (by kernel_rfl) (fun a V H K Q hK => op_quiet (quiet_move (.tmp 44) (H.rel 31 44 (by kernel_rfl) (by kernel_rfl) rfl) (.inl rfl)) hK) ?_
      refine gr_onV (j := 32) (d := 45) (want := true) (u := .bool true) rfl (by kernel_rfl) (by kernel_rfl) (fun a V H => (H.rel 32 45 (by kernel_rfl) (by kernel_rfl) rfl)) (by kernel_rfl) (fun a V H K Q hK => op_callK _ #[] (by kernel_rfl) (by kernel_rfl) (by kernel_rfl) (map0 ) (KA.out _ (next_below hB H.frame)) (by kernel_rfl) hK) ?_
      refine gr_val rfl (by kernel_rfl) (fun a V H K Q hK => op_quiet (quiet_pickT (.tmp 45) (.tmp 46) (.const (.bool false)) (H.rel 32 45 (by kernel_rfl) (by kernel_rfl) rfl) (H.rel 33 46 (by kernel_rfl) (by kernel_rfl) rfl) (by kernel_rfl)) hK) ?_
      refine gr_val rfl (by kernel_rfl) (fun a V H K Q hK => op_quiet (quiet_move (.tmp 47) (H.rel 34 47 (by kernel_rfl) (by kernel_rfl) rfl) (.inr rfl)) hK) ?_
      exact gr_nil
    case hf1 =>
    intro x V hF
    have e0 : x 0 = .agg #[.int .u8 oa, .bool ia1, .bool pa1, .slice A1 n1 c1, .bool ia2, .bool pa2, .slice A2 n2 c2] := hF.rel 0 _ rfl
    have e1 : x 1 = .bool false := hF.rel 1 _ rfl
    have e2 : x 2 = .agg #[.int .u8 oa, .bool ia1, .bool pa1, .slice A1 n1 c1, .bool ia2, .bool pa2, .slice A2 n2 c2] := hF.rel 2 _ rfl
    have e3 : x 3 = .bool false := hF.rel 3 _ rfl
    have e4 : x 4 = .bool true := hF.rel 4 _ rfl
    have e5 : x 5 = .bool true := hF.rel 5 _ rfl
    have e6 : x 6 = .agg #[.int .u8 oa, .bool ia1, .bool pa1, .slice A1 n1 c1, .bool ia2, .bool pa2, .slice A2 n2 c2] := hF.rel 6 _ rfl
    have e7 : x 7 = .slice A3 n3 c3 := hF.rel 7 _ rfl
    have e8 : x 8 = .bool false := hF.rel 8 _ rfl
    have e9 : x 9 = .agg #[.int .u8 oa, .bool ia1, .bool pa1, .slice A1 n1 c1, .bool ia2, .bool pa2, .slice A2 n2 c2] := hF.rel 9 _ rfl
    have e10 : x 10 = .slice A3 n3 c3 := hF.rel 10 _ rfl
    have e11 : x 11 = .bool false := hF.rel 11 _ rfl
    have e12 : x 12 = .bool true := hF.rel 12 _ rfl
    have e13 : x 13 = .bool true := hF.rel 13 _ rfl
    have e14 : x 14 = .bool true := hF.rel 14 _ rfl
    have e15 : x 15 = .agg #[.int .u8 oa, .bool ia1, .bool pa1, .slice A1 n1 c1, .bool ia2, .bool pa2, .slice A2 n2 c2] := hF.rel 15 _ rfl
    have e16 : x 16 = .bool false := hF.rel 16 _ rfl
    have e17 : x 17 = .agg #[.int .u8 oa, .bool ia1, .bool pa1, .slice A1 n1 c1, .bool ia2, .bool pa2, .slice A2 n2 c2] := hF.rel 17 _ rfl
    have e18 : x 18 = .bool false := hF.rel 18 _ rfl
    have e19 : x 19 = .bool true := hF.rel 19 _ rfl
    have e20 : x 20 = .bool true := hF.rel 20 _ rfl
    have e21 : x 21 = .bool true := hF.rel 21 _ rfl
    have e22 : x 22 = .agg #[.int .u8 oa, .bool ia1, .bool pa1, .slice A1 n1 c1, .bool ia2, .bool pa2, .slice A2 n2 c2] := hF.rel 22 _ rfl
    have e23 : x 23 = .bool false := hF.rel 23 _ rfl
    have e24 : x 24 = .bool true := hF.rel 24 _ rfl
    have e25 : x 25 = .bool true := hF.rel 25 _ rfl
    have e26 : x 26 = undef := hF.rel 26 _ rfl
    have e27 : x 27 = undef := hF.rel 27 _ rfl
    have e28 : x 28 = undef := hF.rel 28 _ rfl
    have e29 : x 29 = undef := hF.rel 29 _ rfl
    have e30 : x 30 = .bool true := hF.rel 30 _ rfl
    have e31 : x 31 = .bool true := hF.rel 31 _ rfl
    have e32 : x 32 = .bool true := hF.rel 32 _ rfl
    have e33 : x 33 = .bool true := hF.rel 33 _ rfl
    have e34 : x 34 = .bool true := hF.rel 34 _ rfl
    have e35 : x 35 = .bool true := hF.rel 35 _ rfl
    have hbf := hF.frame
    clear hF
    simp only [Sch.finL, List.setIfInBounds_toArray, List.set_cons_zero, List.set_cons_succ, e0, e1, e2, e3, e4, e5, e6, e7, e8, e9, e10, e11, e12, e13, e14, e15, e16, e17, e18, e19, e20, e21, e22, e23, e24, e25, e26, e27, e28, e29, e30, e31, e32, e33, e34, e35]
    clear e0 e1 e2 e3 e4 e5 e6 e7 e8 e9 e10 e11 e12 e13 e14 e15 e16 e17 e18 e19 e20 e21 e22 e23 e24 e25 e26 e27 e28 e29 e30 e31 e32 e33 e34 e35
    refine tail_nil ?_
    go_wp2_with fail
    go_ret
    exact ⟨rfl, next_below HB0.out (next_below hB hbf)⟩
  · refine wp_R [13, 14, 15, 16, 17, 18, 19, 20, 21, 22, 23, 24, 25, 26, 27, 28, 29, 30, 31, 32, 33, 34, 35, 36, 37, 38, 39, 40, 41, 42, 43, 44, 45, 46, 47, 4] [Rk.val (.agg #[.int .u8 oa, .bool ia1, .bool pa1, .slice A1 n1 c1, .bool ia2, .bool pa2, .slice A2 n2 c2]), Rk.val (.bool false), Rk.val (.agg #[.int .u8 oa, .bool ia1, .bool pa1, .slice A1 n1 c1, .bool ia2, .bool pa2, .slice A2 n2 c2]), Rk.val (.bool false), Rk.val (.bool true), Rk.val (.bool true), Rk.val (.agg #[.int .u8 oa, .bool ia1, .bool pa1, .slice A1 n1 c1, .bool ia2, .bool pa2, .slice A2 n2 c2]), Rk.val (.slice A3 n3 c3), Rk.val (.bool false), Rk.val (.agg #[.int .u8 oa, .bool ia1, .bool pa1, .slice A1 n1 c1, .bool ia2, .bool pa2, .slice A2 n2 c2]), Rk.val (.slice A3 n3 c3), Rk.val (.bool false), Rk.val (.bool true), Rk.val (.bool true), Rk.val (.bool true), Rk.val (.agg #[.int .u8 oa, .bool ia1, .bool pa1, .slice A1 n1 c1, .bool ia2, .bool pa2, .slice A2 n2 c2]), Rk.val (.bool true), Rk.val (.agg #[.int .u8 oa, .bool ia1, .bool pa1, .slice A1 n1 c1, .bool ia2, .bool pa2, .slice A2 n2 c2]), Rk.val (.bool true), Rk.val (.bool true), Rk.val (.bool true), Rk.val (.bool true), Rk.val (.agg #[.int .u8 oa, .bool ia1, .bool pa1, .slice A1 n1 c1, .bool ia2, .bool pa2, .slice A2 n2 c2]), Rk.val (.bool true), Rk.val (.bool false), Rk.val (.bool false), Rk.val (.agg #[.int .u8 oa, .bool ia1, .bool pa1, .slice A1 n1 c1, .bool ia2, .bool pa2, .slice A2 n2 c2]), Rk.val (.slice A3 n3 c3), Rk.val (.bool false), Rk.val (.bool true), Rk.val (.bool true), Rk.val (.bool true), Rk.val (.bool true), Rk.val (.bool true), Rk.val (.bool true), Rk.val (.bool true)] rfl (by kernel_rfl) (by kernel_rfl) (by kernel_rfl) (by kernel_rfl) ?hg1 _ (by rfl) ?hf1
    case hg1 =>
      refine gr_val rfl (by kernel_rfl) (fun a V H K Q hK => op_quiet (quiet_agg _ (.tmp 2) _ 0 (H.old 2 (by kernel_rfl) (by kernel_rfl)) #[.int .u8 oa, .bool ia1, .bool pa1, .slice A1 n1 c1, .bool ia2, .bool pa2, .slice A2 n2 c2] (fun j v hj => X0.out _ (next_below hB H.frame) _ v (part_at 0 ⟨_, rfl⟩ j v hj)) Tryd.underlying31 rfl (by kernel_rfl) (by kernel_rfl)) hK) ?_
      refine gr_val rfl (by kernel_rfl) (fun a V H K Q hK => op_callK _ #[.agg #[.int .u8 oa, .bool ia1, .bool pa1, .slice A1 n1 c1, .bool ia2, .bool pa2, .slice A2 n2 c2]] (by kernel_rfl) (by kernel_rfl) (by kernel_rfl) (map1 (H.rel 0 13 (by kernel_rfl) (by kernel_rfl) rfl)) (K1.out _ (next_below hB H.frame)) (by kernel_rfl) hK) ?_
      refine gr_val rfl (by kernel_rfl) (fun a V H K Q hK => op_quiet (quiet_agg _ (.tmp 2) _ 0 (H.old 2 (by kernel_rfl) (by kernel_rfl)) #[.int .u8 oa, .bool ia1, .bool pa1, .slice A1 n1 c1, .bool ia2, .bool pa2, .slice A2 n2 c2] (fun j v hj => X0.out _ (next_below hB H.frame) _ v (part_at 0 ⟨_, rfl⟩ j v hj)) Tryd.underlying31 rfl (by kernel_rfl) (by kernel_rfl)) hK) ?_
      refine gr_val rfl (by kernel_rfl) (fun a V H K Q hK => op_callK _ #[.agg #[.int .u8 oa, .bool ia1, .bool pa1, .slice A1 n1 c1, .bool ia2, .bool pa2, .slice A2 n2 c2]] (by kernel_rfl) (by kernel_rfl) (by kernel_rfl) (map1 (H.rel 2 15 (by kernel_rfl) (by kernel_rfl) rfl)) (K2.out _ (next_below hB H.frame)) (by kernel_rfl) hK) ?_
      refine gr_val rfl (by kernel_rfl) (fun a V H K Q hK => op_quiet (quiet_eqlB (.tmp 14) (.tmp 16) false false true 4 4 Tryd.underlying4 rfl (H.rel 1 14 (by kernel_rfl) (by kernel_rfl) rfl) (H.rel 3 16 (by kernel_rfl) (by kernel_rfl) rfl) (by kernel_rfl)) hK) ?_
      refine gr_val rfl (by kernel_rfl) (fun a V H K Q hK => op_quiet (quiet_move (.tmp 17) (H.rel 4 17 (by kernel_rfl) (by kernel_rfl) rfl) (.inl rfl)) hK) ?_
      refine gr_onV (j := 5) (d := 18) (want := true) (u := .bool true) rfl (by kernel_rfl) (by kernel_rfl) (fun a V H => (H.rel 5 18 (by kernel_rfl) (by kernel_rfl) rfl)) (by kernel_rfl) (fun a V H K Q hK => op_quiet (quiet_agg _ (.tmp 2) _ 0 (H.old 2 (by kernel_rfl) (by kernel_rfl)) #[.int .u8 oa, .bool ia1, .bool pa1, .slice A1 n1 c1, .bool ia2, .bool pa2, .slice A2 n2 c2] (fun j v hj => X0.out _ (next_below hB H.frame) _ v (part_at 0 ⟨_, rfl⟩ j v hj)) Tryd.underlying31 rfl (by kernel_rfl) (by kernel_rfl)) hK) ?_
      refine gr_onV (j := 5) (d := 18) (want := true) (u := .bool true) rfl (by kernel_rfl) (by kernel_rfl) (fun a V H => (H.rel 5 18 (by kernel_rfl) (by kernel_rfl) rfl)) (by kernel_rfl) (fun a V H K Q hK => op_quiet (quiet_move (.tmp 1) (H.old 1 (by kernel_rfl) (by kernel_rfl)) (.inl rfl)) hK) ?_
      refine gr_onV (j := 5) (d := 18) (want := true) (u := .bool true) rfl (by kernel_rfl) (by kernel_rfl) (fun a V H => (H.rel 5 18 (by kernel_rfl) (by kernel_rfl) rfl)) (by kernel_rfl) (fun a V H K Q hK => op_callK _ #[.agg #[.int .u8 oa, .bool ia1, .bool pa1, .slice A1 n1 c1, .bool ia2, .bool pa2, .slice A2 n2 c2], .slice A3 n3 c3] (by kernel_rfl) (by kernel_rfl) (by kernel_rfl) (map2 (H.rel 6 19 (by kernel_rfl) (by kernel_rfl) rfl) (H.rel 7 20 (by kernel_rfl) (by kernel_rfl) rfl)) (K3.out _ (next_below hB H.frame)) (by kernel_rfl) hK) ?_
      refine gr_onV (j := 5) (d := 18) (want := true) (u := .bool true) rfl (by kernel_rfl) (by kernel_rfl) (fun a V H => (H.rel 5 18 (by kernel_rfl) (by kernel_rfl) rfl)) (by kernel_rfl) (fun a V H K Q hK => op_quiet (quiet_agg _ (.tmp 2) _ 0 (H.old 2 (by kernel_rfl) (by kernel_rfl)) #[.int .u8 oa, .bool ia1, .bool pa1, .slice A1 n1 c1, .bool ia2, .bool pa2, .slice A2 n2 c2] (fun j v hj => X0.out _ (next_below hB H.frame) _ v (part_at 0 ⟨_, rfl⟩ j v hj)) Tryd.underlying31 rfl (by kernel_rfl) (by kernel_rfl)) hK) ?_
      refine gr_onV (j := 5) (d := 18) (want := true) (u := .bool true) rfl (by kernel_rfl) (by kernel_rfl) (fun a V H => (H.rel 5 18 (by kernel_rfl) (by kernel_rfl) rfl)) (by kernel_rfl) (fun a V H K Q hK => op_quiet (quiet_move (.tmp 1) (H.old 1 (by kernel_rfl) (by kernel_rfl)) (.inl rfl)) hK) ?_
      refine gr_onV (j := 5) (d := 18) (want := true) (u := .bool true) rfl (by kernel_rfl) (by kernel_rfl) (fun a V H => (H.rel 5 18 (by kernel_rfl) (by kernel_rfl) rfl)) (by kernel_rfl) (fun a V H K Q hK => op_callK _ #[.agg #[.int .u8 oa, .bool ia1, .bool pa1, .slice A1 n1 c1, .bool ia2, .bool pa2, .slice A2 n2 c2], .slice A3 n3 c3] (by kernel_rfl) (by kernel_rfl) (by kernel_rfl) (map2 (H.rel 9 22 (by kernel_rfl) (by kernel_rfl) rfl) (H.rel 10 23 (by kernel_rfl) (by kernel_rfl) rfl)) (K4.out _ (next_below hB H.frame)) (by kernel_rfl) hK) ?_
      refine gr_onV (j := 5) (d := 18) (want := true) (u := .bool true) rfl (by kernel_rfl) (by kernel_rfl) (fun a V H => (H.rel 5 18 (by kernel_rfl) (by kernel_rfl) rfl)) (by kernel_rfl) (fun a V H K Q hK => op_quiet (quiet_eqlB (.tmp 21) (.tmp 24) false false true 4 4 Tryd.underlying4 rfl (H.rel 8 21 (by kernel_rfl) (by kernel_rfl) rfl) (H.rel 11 24 (by kernel_rfl) (by kernel_rfl) rfl) (by kernel_rfl)) hK) ?_
      refine gr_val rfl (by kernel_rfl) (fun a V H K Q hK => op_quiet (quiet_pickT (.tmp 18) (.tmp 25) (.const (.bool false)) (H.rel 5 18 (by kernel_rfl) (by kernel_rfl) rfl) (H.rel 12 25 (by kernel_rfl) (by kernel_rfl) rfl) (by kernel_rfl)) hK) ?_
      refine gr_val rfl (by kernel_rfl) (fun a V H K Q hK => op_quiet (quiet_move (.tmp 26) (H.rel 13 26 (by kernel_rfl) (by kernel_rfl) rfl) (.inl rfl)) hK) ?_
      refine gr_onV (j := 14) (d := 27) (want := true) (u := .bool true) rfl (by kernel_rfl) (by kernel_rfl) (fun a V H => (H.rel 14 27 (by kernel_rfl) (by kernel_rfl) rfl)) (by kernel_rfl) (fun a V H K Q hK => op_quiet (quiet_agg _ (.tmp 2) _ 0 (H.old 2 (by kernel_rfl) (by kernel_rfl)) #[.int .u8 oa, .bool ia1, .bool pa1, .slice A1 n1 c1, .bool ia2, .bool pa2, .slice A2 n2 c2] (fun j v hj => X0.out _ (next_below hB H.frame) _ v (part_at 0 ⟨_, rfl⟩ j v hj)) Tryd.underlying31 rfl (by kernel_rfl) (by kernel_rfl)) hK) ?_
      refine gr_onV (j := 14) (d := 27) (want := true) (u := .bool true) rfl (by kernel_rfl) (by kernel_rfl) (fun a V H => (H.rel 14 27 (by kernel_rfl) (by kernel_rfl) rfl)) (by kernel_rfl) (fun a V H K Q hK => op_callK _ #[.agg #[.int .u8 oa, .bool ia1, .bool pa1, .slice A1 n1 c1, .bool ia2, .bool pa2, .slice A2 n2 c2]] (by kernel_rfl) (by kernel_rfl) (by kernel_rfl) (map1 (H.rel 15 28 (by kernel_rfl) (by kernel_rfl) rfl)) (K5.out _ (next_below hB H.frame)) (by kernel_rfl) hK) ?_
      refine gr_onV (j := 14) (d := 27) (want := true) (u := .bool true) rfl (by kernel_rfl) (by kernel_rfl) (fun a V H => (H.rel 14 27 (by kernel_rfl) (by kernel_rfl) rfl)) (by kernel_rfl) (fun a V H K Q hK => op_quiet (quiet_agg _ (.tmp 2) _ 0 (H.old 2 (by kernel_rfl) (by kernel_rfl)) #[.int .u8 oa, .bool ia1, .bool pa1, .slice A1 n1 c1, .bool ia2, .bool pa2, .slice A2 n2 c2] (fun j v hj => X0.out _ (next_below hB H.frame) _ v (part_at 0 ⟨_, rfl⟩ j v hj)) Tryd.underlying31 rfl (by kernel_rfl) (by kernel_rfl)) hK) ?_
      refine gr_onV (j := 14) (d := 27) (want := true) (u := .bool true) rfl (by kernel_rfl) (by kernel_rfl) (fun a V H => (H.rel 14 27 (by kernel_rfl) (by kernel_rfl) rfl)) (by kernel_rfl) (fun a V H K Q hK => op_callK _ #[.agg #[.int .u8 oa, .bool ia1, .bool pa1, .slice A1 n1 c1, .bool ia2, .bool pa2, .slice A2 n2 c2]] (by kernel_rfl) (by kernel_rfl) (by kernel_rfl) (map1 (H.rel 17 30 (by kernel_rfl) (by kernel_rfl) rfl)) (K6.out _ (next_below hB H.frame)) (by kernel_rfl) hK) ?_
      refine gr_onV (j := 14) (d := 27) (want := true) (u := .bool true) rfl (by kernel_rfl) (by kernel_rfl) (fun a V H => (H.rel 14 27 (by kernel_rfl) (by kernel_rfl) rfl)) (by kernel_rfl) (fun a V H K Q hK => op_quiet (quiet_eqlB (.tmp 29) (.tmp 31) true true true 4 4 Tryd.underlying4 rfl (H.rel 16 29 (by kernel_rfl) (by kernel_rfl) rfl) (H.rel 18 31 (by kernel_rfl) (by kernel_rfl) rfl) (by kernel_rfl)) hK) ?_
      refine gr_val rfl (by kernel_rfl) (fun a V H K Q hK => op_quiet (quiet_pickT (.tmp 27) (.tmp 32) (.const (.bool false)) (H.rel 14 27 (by kernel_rfl) (by kernel_rfl) rfl) (H.rel 19 32 (by kernel_rfl) (by kernel_rfl) rfl) (by kernel_rfl)) hK) ?_
      refine gr_val rfl (by kernel_rfl) (fun a V H K Q hK => op_quiet (quiet_move (.tmp 33) (H.rel 20 33 (by kernel_rfl) (by kernel_rfl) rfl) (.inl rfl)) hK) ?_
      refine gr_onV (j := 21) (d := 34) (want := true) (u := .bool true) rfl (by kernel_rfl) (by kernel_rfl) (fun a V H => (H.rel 21 34 (by kernel_rfl) (by kernel_rfl) rfl)) (by kernel_rfl) (fun a V H K Q hK => op_quiet (quiet_agg _ (.tmp 2) _ 0 (H.old 2 (by kernel_rfl) (by kernel_rfl)) #[.int .u8 oa, .bool ia1, .bool pa1, .slice A1 n1 c1, .bool ia2, .bool pa2, .slice A2 n2 c2] (fun j v hj => X0.out _ (next_below hB H.frame) _ v (part_at 0 ⟨_, rfl⟩ j v hj)) Tryd.underlying31 rfl (by kernel_rfl) (by kernel_rfl)) hK) ?_
      refine gr_onV (j := 21) (d := 34) (want := true) (u := .bool true) rfl (by kernel_rfl) (by kernel_rfl) (fun a V H => (H.rel 21 34 (by kernel_rfl) (by kernel_rfl) rfl)) (by kernel_rfl) (fun a V H K Q hK => op_callK _ #[.agg #[.int .u8 oa, .bool ia1, .bool pa1, .slice A1 n1 c1, .bool ia2, .bool pa2, .slice A2 n2 c2]] (by kernel_rfl) (by kernel_rfl) (by kernel_rfl) (map1 (H.rel 22 35 (by kernel_rfl) (by kernel_rfl) rfl)) (K5.out _ (next_below hB H.frame)) (by kernel_rfl) hK) ?_
      refine gr_onV (j := 21) (d := 34) (want := true) (u := .bool true) rfl (by kernel_rfl) (by kernel_rfl) (fun a V H => (H.rel 21 34 (by kernel_rfl) (by kernel_rfl) rfl)) (by kernel_rfl) (fun a V H K Q hK => op_quiet (quiet_not 4 (.tmp 36) (H.rel 23 36 (by kernel_rfl) (by kernel_rfl) rfl) (by kernel_rfl)) hK) ?_
      refine gr_onV (j := 21) (d := 34) (want := true) (u := .bool true) rfl (by kernel_rfl) (by kernel_rfl) (fun a V H => (H.rel 21 34 (by kernel_rfl) (by kernel_rfl) rfl)) (by kernel_rfl) (fun a V H K Q hK => op_quiet (quiet_move (.tmp 37) (H.rel 24 37 (by kernel_rfl) (by kernel_rfl) rfl) (.inl rfl)) hK) ?_
      refine gr_onV (j := 25) (d := 38) (want := false) (u := .bool false) rfl (by kernel_rfl) (by kernel_rfl) (fun a V H => (H.rel 25 38 (by kernel_rfl) (by kernel_rfl) rfl)) (by kernel_rfl) (fun a V H K Q hK => op_quiet (quiet_agg _ (.tmp 2) _ 0 (H.old 2 (by kernel_rfl) (by kernel_rfl)) #[.int .u8 oa, .bool ia1, .bool pa1, .slice A1 n1 c1, .bool ia2, .bool pa2, .slice A2 n2 c2] (fun j v hj => X0.out _ (next_below hB H.frame) _ v (part_at 0 ⟨_, rfl⟩ j v hj)) Tryd.underlying31 rfl (by kernel_rfl) (by kernel_rfl)) hK) ?_
      refine gr_onV (j := 25) (d := 38) (want := false) (u := .bool false) rfl (by kernel_rfl) (by kernel_rfl) (fun a V H => (H.rel 25 38 (by kernel_rfl) (by kernel_rfl) rfl)) (by kernel_rfl) (fun a V H K Q hK => op_quiet (quiet_move (.tmp 1) (H.old 1 (by kernel_rfl) (by kernel_rfl)) (.inl rfl)) hK) ?_
      refine gr_onV (j := 25) (d := 38) (want := false) (u := .bool false) rfl (by kernel_rfl) (by kernel_rfl) (fun a V H => (H.rel 25 38 (by kernel_rfl) (by kernel_rfl) rfl)) (by kernel_rfl) (fun a V H K Q hK => op_callK _ #[.agg #[.int .u8 oa, .bool ia1, .bool pa1, .slice A1 n1 c1, .bool ia2, .bool pa2, .slice A2 n2 c2], .slice A3 n3 c3] (by kernel_rfl) (by kernel_rfl) (by kernel_rfl) (map2 (H.rel 26 39 (by kernel_rfl) (by kernel_rfl) rfl) (H.rel 27 40 (by kernel_rfl) (by kernel_rfl) rfl)) (K3.out _ (next_below hB H.frame)) (by kernel_rfl) hK) ?_
      refine gr_onV (j := 25) (d := 38) (want := false) (u := .bool false) rfl (by kernel_rfl) (by kernel_rfl) (fun a V H => (H.rel 25 38 (by kernel_rfl) (by kernel_rfl) rfl)) (by kernel_rfl) (fun a V H K Q hK => op_quiet (quiet_not 4 (.tmp 41) (H.rel 28 41 (by kernel_rfl) (by kernel_rfl) rfl) (by kernel_rfl)) hK) ?_
      refine gr_onV (j := 21) (d := 34) (want := true) (u := .bool true) rfl (by kernel_rfl) (by kernel_rfl) (fun a V H => (H.rel 21 34 (by kernel_rfl) (by kernel_rfl) rfl)) (by kernel_rfl) (fun a V H K Q hK => op_quiet (quiet_pickF (.tmp 38) (.const (.bool true)) (.tmp 42) (H.rel 25 38 (by kernel_rfl) (by kernel_rfl) rfl) (H.rel 29 42 (by kernel_rfl) (by kernel_rfl) rfl) (by kernel_rfl)) hK) ?_
      refine gr_val rfl (by kernel_rfl) (fun a V H K Q hK => op_quiet (quiet_pickT (.tmp 34) (.tmp 43) (.const (.bool false)) (H.rel 21 34 (by kernel_rfl) (by kernel_rfl) rfl) (H.rel 30 43 (by kernel_rfl) (by kernel_rfl) rfl) (by kernel_rfl)) hK) ?_
      refine gr_val rfl (by kernel_rfl) (fun a V H K Q hK => op_quiet (quiet_move (.tmp 44) (H.rel 31 44 (by kernel_rfl) (by kernel_rfl) rfl) (.inl rfl)) hK) ?_
      refine gr_onV (j := 32) (d := 45) (want := true) (u := .bool true) rfl (by kernel_rfl) (by kernel_rfl) (fun a V H => (H.rel 32 45 (by kernel_rfl) (by kernel_rfl) rfl)) (by kernel_rfl) (fun a V H K Q hK => op_callK _ #[] (by kernel_rfl) (by kernel_rfl) (by kernel_rfl) (map0 ) (KA.out _ (next_below hB H.frame)) (by kernel_rfl) hK) ?_
      refine gr_val rfl (by kernel_rfl) (fun a V H K Q hK => op_quiet (quiet_pickT (.tmp 45) (.tmp 46) (.const (.bool false)) (H.rel 32 45 (by kernel_rfl) (by kernel_rfl) rfl) (H.rel 33 46 (by kernel_rfl) (by kernel_rfl) rfl) (by kernel_rfl)) hK) ?_
      refine gr_val rfl (by kernel_rfl) (fun a V H K Q hK => op_quiet (quiet_move (.tmp 47) (H.rel 34 47 (by kernel_rfl) (by kernel_rfl) rfl) (.inr rfl)) hK) ?_
      exact gr_nil
    case hf1 =>
    intro x V hF
    have e0 : x 0 = .agg #[.int .u8 oa, .bool ia1, .bool pa1, .slice A1 n1 c1, .bool ia2, .bool pa2, .slice A2 n2 c2] := hF.rel 0 _ rfl
    have e1 : x 1 = .bool false := hF.rel 1 _ rfl
    have e2 : x 2 = .agg #[.int .u8 oa, .bool ia1, .bool pa1, .slice A1 n1 c1, .bool ia2, .bool pa2, .slice A2 n2 c2] := hF.rel 2 _ rfl
    have e3 : x 3 = .bool false := hF.rel 3 _ rfl
    have e4 : x 4 = .bool true := hF.rel 4 _ rfl
    have e5 : x 5 = .bool true := hF.rel 5 _ rfl
    have e6 : x 6 = .agg #[.int .u8 oa, .bool ia1, .bool pa1, .slice A1 n1 c1, .bool ia2, .bool pa2, .slice A2 n2 c2] := hF.rel 6 _ rfl
    have e7 : x 7 = .slice A3 n3 c3 := hF.rel 7 _ rfl
    have e8 : x 8 = .bool false := hF.rel 8 _ rfl
    have e9 : x 9 = .agg #[.int .u8 oa, .bool ia1, .bool pa1, .slice A1 n1 c1, .bool ia2, .bool pa2, .slice A2 n2 c2] := hF.rel 9 _ rfl
    have e10 : x 10 = .slice A3 n3 c3 := hF.rel 10 _ rfl
    have e11 : x 11 = .bool false := hF.rel 11 _ rfl
    have e12 : x 12 = .bool true := hF.rel 12 _ rfl
    have e13 : x 13 = .bool true := hF.rel 13 _ rfl
    have e14 : x 14 = .bool true := hF.rel 14 _ rfl
    have e15 : x 15 = .agg #[.int .u8 oa, .bool ia1, .bool pa1, .slice A1 n1 c1, .bool ia2, .bool pa2, .slice A2 n2 c2] := hF.rel 15 _ rfl
    have e16 : x 16 = .bool true := hF.rel 16 _ rfl
    have e17 : x 17 = .agg #[.int .u8 oa, .bool ia1, .bool pa1, .slice A1 n1 c1, .bool ia2, .bool pa2, .slice A2 n2 c2] := hF.rel 17 _ rfl
    have e18 : x 18 = .bool true := hF.rel 18 _ rfl
    have e19 : x 19 = .bool true := hF.rel 19 _ rfl
    have e20 : x 20 = .bool true := hF.rel 20 _ rfl
    have e21 : x 21 = .bool true := hF.rel 21 _ rfl
    have e22 : x 22 = .agg #[.int .u8 oa, .bool ia1, .bool pa1, .slice A1 n1 c1, .bool ia2, .bool pa2, .slice A2 n2 c2] := hF.rel 22 _ rfl
    have e23 : x 23 = .bool true := hF.rel 23 _ rfl
    have e24 : x 24 = .bool false := hF.rel 24 _ rfl
    have e25 : x 25 = .bool false := hF.rel 25 _ rfl
    have e26 : x 26 = .agg #[.int .u8 oa, .bool ia1, .bool pa1, .slice A1 n1 c1, .bool ia2, .bool pa2, .slice A2 n2 c2] := hF.rel 26 _ rfl
    have e27 : x 27 = .slice A3 n3 c3 := hF.rel 27 _ rfl
    have e28 : x 28 = .bool false := hF.rel 28 _ rfl
    have e29 : x 29 = .bool true := hF.rel 29 _ rfl
    have e30 : x 30 = .bool true := hF.rel 30 _ rfl
    have e31 : x 31 = .bool true := hF.rel 31 _ rfl
    have e32 : x 32 = .bool true := hF.rel 32 _ rfl
    have e33 : x 33 = .bool true := hF.rel 33 _ rfl
    have e34 : x 34 = .bool true := hF.rel 34 _ rfl
    have e35 : x 35 = .bool true := hF.rel 35 _ rfl
    have hbf := hF.frame
    clear hF
    simp only [Sch.finL, List.setIfInBounds_toArray, List.set_cons_zero, List.set_cons_succ, e0, e1, e2, e3, e4, e5, e6, e7, e8, e9, e10, e11, e12, e13, e14, e15, e16, e17, e18, e19, e20, e21, e22, e23, e24, e25, e26, e27, e28, e29, e30, e31, e32, e33, e34, e35]
    clear e0 e1 e2 e3 e4 e5 e6 e7 e8 e9 e10 e11 e12 e13 e14 e15 e16 e17 e18 e19 e20 e21 e22 e23 e24 e25 e26 e27 e28 e29 e30 e31 e32 e33 e34 e35
    refine tail_nil ?_
    go_wp2_with fail
    go_ret
    exact ⟨rfl, next_below HB0.out (next_below hB hbf)⟩
  · refine wp_R [13, 14, 15, 16, 17, 18, 19, 20, 21, 22, 23, 24, 25, 26, 27, 28, 29, 30, 31, 32, 33, 34, 35, 36, 37, 38, 39, 40, 41, 42, 43, 44, 45, 46, 47, 4] [Rk.val (.agg #[.int .u8 oa, .bool ia1, .bool pa1, .slice A1 n1 c1, .bool ia2, .bool pa2, .slice A2 n2 c2]), Rk.val (.bool false), Rk.val (.agg #[.int .u8 oa, .bool ia1, .bool pa1, .slice A1 n1 c1, .bool ia2, .bool pa2, .slice A2 n2 c2]), Rk.val (.bool false), Rk.val (.bool true), Rk.val (.bool true), Rk.val (.agg #[.int .u8 oa, .bool ia1, .bool pa1, .slice A1 n1 c1, .bool ia2, .bool pa2, .slice A2 n2 c2]), Rk.val (.slice A3 n3 c3), Rk.val (.bool true), Rk.val (.agg #[.int .u8 oa, .bool ia1, .bool pa1, .slice A1 n1 c1, .bool ia2, .bool pa2, .slice A2 n2 c2]), Rk.val (.slice A3 n3 c3), Rk.val (.bool true), Rk.val (.bool true), Rk.val (.bool true), Rk.val (.bool true), Rk.val (.agg #[.int .u8 oa, .bool ia1, .bool pa1, .slice A1 n1 c1, .bool ia2, .bool pa2, .slice A2 n2 c2]), Rk.val (.bool false), Rk.val (.agg #[.int .u8 oa, .bool ia1, .bool pa1, .slice A1 n1 c1, .bool ia2, .bool pa2, .slice A2 n2 c2]), Rk.val (.bool false), Rk.val (.bool true), Rk.val (.bool true), Rk.val (.bool true), Rk.val (.agg #[.int .u8 oa, .bool ia1, .bool pa1, .slice A1 n1 c1, .bool ia2, .bool pa2, .slice A2 n2 c2]), Rk.val (.bool false), Rk.val (.bool true), Rk.val (.bool true), Rk.val undef, Rk.val undef, Rk.val undef, Rk.val undef, Rk.val (.bool true), Rk.val (.bool true), Rk.val (.bool true), Rk.val (.bool true), Rk.val (.bool true), Rk.val (.bool true)] rfl (by kernel_rfl) (by kernel_rfl) (by kernel_rfl) (by kernel_rfl) ?hg1 _ (by rfl) ?hf1
    case hg1 =>
      refine gr_val rfl (by kernel_rfl) (fun a V H K Q hK => op_quiet (quiet_agg _ (.tmp 2) _ 0 (H.old 2 (by kernel_rfl) (by kernel_rfl)) #[.int .u8 oa, .bool ia1, .bool pa1, .slice A1 n1 c1, .bool ia2, .bool pa2, .slice A2 n2 c2] (fun j v hj => X0.out _ (next_below hB H.frame) _ v (part_at 0 ⟨_, rfl⟩ j v hj)) Tryd.underlying31 rfl (by kernel_rfl) (by kernel_rfl)) hK) ?_
      refine gr_val rfl (by kernel_rfl) (fun a V H K Q hK => op_callK _ #[.agg #[.int .u8 oa, .bool ia1, .bool pa1, .slice A1 n1 c1, .bool ia2, .bool pa2, .slice A2 n2 c2]] (by kernel_rfl) (by kernel_rfl) (by kernel_rfl) (map1 (H.rel 0 13 (by kernel_rfl) (by kernel_rfl) rfl)) (K1.out _ (next_below hB H.frame)) (by kernel_rfl) hK) ?_
      refine gr_val rfl (by kernel_rfl) (fun a V H K Q hK => op_quiet (quiet_agg _ (.tmp 2) _ 0 (H.old 2 (by kernel_rfl) (by kernel_rfl)) #[.int .u8 oa, .bool ia1, .bool pa1, .slice A1 n1 c1, .bool ia2, .bool pa2, .slice A2 n2 c2] (fun j v hj => X0.out _ (next_below hB H.frame) _ v (part_at 0 ⟨_, rfl⟩ j v hj)) Tryd.underlying31 rfl (by kernel_rfl) (by kernel_rfl)) hK) ?_
      refine gr_val rfl (by kernel_rfl) (fun a V H K Q hK => op_callK _ #[.agg #[.int .u8 oa, .bool ia1, .bool pa1, .slice A1 n1 c1, .bool ia2, .bool pa2, .slice A2 n2 c2]] (by kernel_rfl) (by kernel_rfl) (by kernel_rfl) (map1 (H.rel 2 15 (by kernel_rfl) (by kernel_rfl) rfl)) (K2.out _ (next_below hB H.frame)) (by kernel_rfl) hK) ?_
      refine gr_val rfl (by kernel_rfl) (fun a V H K Q hK => op_quiet (quiet_eqlB (.tmp 14) (.tmp 16) false false true 4 4 Tryd.underlying4 rfl (H.rel 1 14 (by kernel_rfl) (by kernel_rfl) rfl) (H.rel 3 16 (by kernel_rfl) (by kernel_rfl) rfl) (by kernel_rfl)) hK) ?_
      refine gr_val rfl (by kernel_rfl) (fun a V H K Q hK => op_quiet (quiet_move (.tmp 17) (H.rel 4 17 (by kernel_rfl) (by kernel_rfl) rfl) (.inl rfl)) hK) ?_
      refine gr_onV (j := 5) (d := 18) (want := true) (u := .bool true) rfl (by kernel_rfl) (by kernel_rfl) (fun a V H => (H.rel 5 18 (by kernel_rfl) (by kernel_rfl) rfl)) (by kernel_rfl) (fun a V H K Q hK => op_quiet (quiet_agg _ (.tmp 2) _ 0 (H.old 2 (by kernel_rfl) (by kernel_rfl)) #[.int .u8 oa, .bool ia1, .bool pa1, .slice A1 n1 c1, .bool ia2, .bool pa2, .slice A2 n2 c2] (fun j v hj => X0.out _ (next_below hB H.frame) _ v (part_at 0 ⟨_, rfl⟩ j v hj)) Tryd.underlying31 rfl (by kernel_rfl) (by kernel_rfl)) hK) ?_
      refine gr_onV (j := 5) (d := 18) (want := true) (u := .bool true) rfl (by kernel_rfl) (by kernel_rfl) (fun a V H => (H.rel 5 18 (by kernel_rfl) (by kernel_rfl) rfl)) (by kernel_rfl) (fun a V H K Q hK => op_quiet (quiet_move (.tmp 1) (H.old 1 (by kernel_rfl) (by kernel_rfl)) (.inl rfl)) hK) ?_
      refine gr_onV (j := 5) (d := 18) (want := true) (u := .bool true) rfl (by kernel_rfl) (by kernel_rfl) (fun a V H => (H.rel 5 18 (by kernel_rfl) (by kernel_rfl) rfl)) (by kernel_rfl) (fun a V H K Q hK => op_callK _ #[.agg #[.int .u8 oa, .bool ia1, .bool pa1, .slice A1 n1 c1, .bool ia2, .bool pa2, .slice A2 n2 c2], .slice A3 n3 c3] (by kernel_rfl) (by kernel_rfl) (by kernel_rfl) (map2 (H.rel 6 19 (by kernel_rfl) (by kernel_rfl) rfl) (H.rel 7 20 (by kernel_rfl) (by kernel_rfl) rfl)) (K3.out _ (next_below hB H.frame)) (by kernel_rfl) hK) ?_
      refine gr_onV (j := 5) (d := 18) (want := true) (u := .bool true) rfl (by kernel_rfl) (by kernel_rfl) (fun a V H => (H.rel 5 18 (by kernel_rfl) (by kernel_rfl) rfl)) (by kernel_rfl) (fun a V H K Q hK => op_quiet (quiet_agg _ (.tmp 2) _ 0 (H.old 2 (by kernel_rfl) (by kernel_rfl)) #[.int .u8 oa, .bool ia1, .bool pa1, .slice A1 n1 c1, .bool ia2, .bool pa2, .slice A2 n2 c2] (fun j v hj => X0.out _ (next_below hB H.frame) _ v (part_at 0 ⟨_, rfl⟩ j v hj)) Tryd.underlying31 rfl (by kernel_rfl) (by kernel_rfl)) hK) ?_
      refine gr_onV (j := 5) (d := 18) (want := true) (u := .bool true) rfl (by kernel_rfl) (by kernel_rfl) (fun a V H => (H.rel 5 18 (by kernel_rfl) (by kernel_rfl) rfl)) (by kernel_rfl) (fun a V H K Q hK => op_quiet (quiet_move (.tmp 1) (H.old 1 (by kernel_rfl) (by kernel_rfl)) (.inl rfl)) hK) ?_
      refine gr_onV (j := 5) (d := 18) (want := true) (u := .bool true) rfl (by kernel_rfl) (by kernel_rfl) (fun a V H => (H.rel 5 18 (by kernel_rfl) (by kernel_rfl) rfl)) (by kernel_rfl) (fun a V H K Q hK => op_callK _ #[.agg #[.int .u8 oa, .bool ia1, .bool pa1, .slice A1 n1 c1, .bool ia2, .bool pa2, .slice A2 n2 c2], .slice A3 n3 c3] (by kernel_rfl) (by kernel_rfl) (by kernel_rfl) (map2 (H.rel 9 22 (by kernel_rfl) (by kernel_rfl) rfl) (H.rel 10 23 (by kernel_rfl) (by kernel_rfl) rfl)) (K4.out _ (next_below hB H.frame)) (by kernel_rfl) hK) ?_
      refine gr_onV (j := 5) (d := 18) (want := true) (u := .bool true) rfl (by kernel_rfl) (by kernel_rfl) (fun a V H => (H.rel 5 18 (by kernel_rfl) (by kernel_rfl) rfl)) (by kernel_rfl) (fun a V H K Q hK => op_quiet (quiet_eqlB (.tmp 21) (.tmp 24) true true true 4 4 Tryd.underlying4 rfl (H.rel 8 21 (by kernel_rfl) (by kernel_rfl) rfl) (H.rel 11 24 (by kernel_rfl) (by kernel_rfl) rfl) (by kernel_rfl)) hK) ?_
      refine gr_val rfl (by kernel_rfl) (fun a V H K Q hK => op_quiet (quiet_pickT (.tmp 18) (.tmp 25) (.const (.bool false)) (H.rel 5 18 (by kernel_rfl) (by kernel_rfl) rfl) (H.rel 12 25 (by kernel_rfl) (by kernel_rfl) rfl) (by kernel_rfl)) hK) ?_
      refine gr_val rfl (by kernel_rfl) (fun a V H K Q hK => op_quiet (quiet_move (.tmp 26) (H.rel 13 26 (by kernel_rfl) (by kernel_rfl) rfl) (.inl rfl)) hK) ?_
      refine gr_onV (j := 14) (d := 27) (want := true) (u := .bool true) rfl (by kernel_rfl) (by kernel_rfl) (fun a V H => (H.rel 14 27 (by kernel_rfl) (by kernel_rfl) rfl)) (by kernel_rfl) (fun a V H K Q hK => op_quiet (quiet_agg _ (.tmp 2) _ 0 (H.old 2 (by kernel_rfl) (by kernel_rfl)) #[.int .u8 oa, .bool ia1, .bool pa1, .slice A1 n1 c1, .bool ia2, .bool pa2, .slice A2 n2 c2] (fun j v hj => X0.out _ (next_below hB H.frame) _ v (part_at 0 ⟨_, rfl⟩ j v hj)) Tryd.underlying31 rfl (by kernel_rfl) (by kernel_rfl)) hK) ?_
      refine gr_onV (j := 14) (d := 27) (want := true) (u := .bool true) rfl (by kernel_rfl) (by kernel_rfl) (fun a V H => (H.rel 14 27 (by kernel_rfl) (by kernel_rfl) rfl)) (by kernel_rfl) (fun a V H K Q hK => op_callK _ #[.agg #[.int .u8 oa, .bool ia1, .bool pa1, .slice A1 n1 c1, .bool ia2, .bool pa2, .slice A2 n2 c2]] (by kernel_rfl) (by kernel_rfl) (by kernel_rfl) (map1 (H.rel 15 28 (by kernel_rfl) (by kernel_rfl) rfl)) (K5.out _ (next_below hB H.frame)) (by kernel_rfl) hK) ?_
      refine gr_onV (j := 14) (d := 27) (want := true) (u := .bool true) rfl (by kernel_rfl) (by kernel_rfl) (fun a V H => (H.rel 14 27 (by kernel_rfl) (by kernel_rfl) rfl)) (by kernel_rfl) (fun a V H K Q hK => op_quiet (quiet_agg _ (.tmp 2) _ 0 (H.old 2 (by kernel_rfl) (by kernel_rfl)) #[.int .u8 oa, .bool ia1, .bool pa1, .slice A1 n1 c1, .bool ia2, .bool pa2, .slice A2 n2 c2] (fun j v hj => X0.out _ (next_below hB H.frame) _ v (part_at 0 ⟨_, rfl⟩ j v hj)) Tryd.underlying31 rfl (by kernel_rfl) (by kernel_rfl)) hK) ?_
      refine gr_onV (j := 14) (d := 27) (want := true) (u := .bool true) rfl (by kernel_rfl) (by kernel_rfl) (fun a V H => (H.rel 14 27 (by kernel_rfl) (by kernel_rfl) rfl)) (by kernel_rfl) (fun a V H K Q hK => op_callK _ #[.agg #[.int .u8 oa, .bool ia1, .bool pa1, .slice A1 n1 c1, .bool ia2, .bool pa2, .slice A2 n2 c2]] (by kernel_rfl) (by kernel_rfl) (by kernel_rfl) (map1 (H.rel 17 30 (by kernel_rfl) (by kernel_rfl) rfl)) (K6.out _ (next_below hB H.frame)) (by kernel_rfl) hK) ?_
      refine gr_onV (j := 14) (d := 27) (want := true) (u := .bool true) rfl (by kernel_rfl) (by kernel_rfl) (fun a V H => (H.rel 14 27 (by kernel_rfl) (by kernel_rfl) rfl)) (by kernel_rfl) (fun a V H K Q hK => op_quiet (quiet_eqlB (.tmp 29) (.tmp 31) false false true 4 4 Tryd.underlying4 rfl (H.rel 16 29 (by kernel_rfl) (by kernel_rfl) rfl) (H.rel 18 31 (by kernel_rfl) (by kernel_rfl) rfl) (by kernel_rfl)) hK) ?_
      refine gr_val rfl (by kernel_rfl) (fun a V H K Q hK => op_quiet (quiet_pickT (.tmp 27) (.tmp 32) (.const (.bool false)) (H.rel 14 27 (by kernel_rfl) (by kernel_rfl) rfl) (H.rel 19 32 (by kernel_rfl) (by kernel_rfl) rfl) (by kernel_rfl)) hK) ?_
      refine gr_val rfl (by kernel_rfl) (fun a V H K Q hK => op_quiet (quiet_move (.tmp 33) (H.rel 20 33 (by kernel_rfl) (by kernel_rfl) rfl) (.inl rfl)) hK) ?_
      refine gr_onV (j := 21) (d := 34) (want := true) (u := .bool true) rfl (by kernel_rfl) (by kernel_rfl) (fun a V H => (H.rel 21 34 (by kernel_rfl) (by kernel_rfl) rfl)) (by kernel_rfl) (fun a V H K Q hK => op_quiet (quiet_agg _ (.tmp 2) _ 0 (H.old 2 (by kernel_rfl) (by kernel_rfl)) #[.int .u8 oa, .bool ia1, .bool pa1, .slice A1 n1 c1, .bool ia2, .bool pa2, .slice A2 n2 c2] (fun j v hj => X0.out _ (next_below hB H.frame) _ v (part_at 0 ⟨_, rfl⟩ j v hj)) Tryd.underlying31 rfl (by kernel_rfl) (by kernel_rfl)) hK) ?_
      refine gr_onV (j := 21) (d := 34) (want := true) (u := .bool true) rfl (by kernel_rfl) (by kernel_rfl) (fun a V H => (H.rel 21 34 (by kernel_rfl) (by kernel_rfl) rfl)) (by kernel_rfl) (fun a V H K Q hK => op_callK _ #[.agg #[.int .u8 oa, .bool ia1, .bool pa1, .slice A1 n1 c1, .bool ia2, .bool pa2, .slice A2 n2 c2]] (by kernel_rfl) (by kernel_rfl) (by kernel_rfl) (map1 (H.rel 22 35 (by kernel_rfl) (by kernel_rfl) rfl)) (K5.out _ (next_below hB H.frame)) (by kernel_rfl) hK) ?_
      refine gr_onV (j := 21) (d := 34) (want := true) (u := .bool true) rfl (by kernel_rfl) (by kernel_rfl) (fun a V H => (H.rel 21 34 (by kernel_rfl) (by kernel_rfl) rfl)) (by kernel_rfl) (fun a V H K Q hK => op_quiet (quiet_not 4 (.tmp 36) (H.rel 23 36 (by kernel_rfl) (by kernel_rfl) rfl) (by kernel_rfl)) hK) ?_
      refine gr_onV (j := 21) (d := 34) (want := true) (u := .bool true) rfl (by kernel_rfl) (by kernel_rfl) (fun a V H => (H.rel 21 34 (by kernel_rfl) (by kernel_rfl) rfl)) (by kernel_rfl) (fun a V H K Q hK => op_quiet (quiet_move (.tmp 37) (H.rel 24 37 (by kernel_rfl) (by kernel_rfl) rfl) (.inl rfl)) hK) ?_
      refine gr_offV (j := 25) (d := 38) (want := false) (u := .bool true) rfl (by kernel_rfl) (by kernel_rfl) (fun a V H => (H.rel 25 38 (by kernel_rfl) (by kernel_rfl) rfl)) (by kernel_rfl) ?_
      refine gr_offV (j := 25) (d := 38) (want := false) (u := .bool true) rfl (by kernel_rfl) (by kernel_rfl) (fun a V H => (H.rel 25 38 (by kernel_rfl) (by kernel_rfl) rfl)) (by kernel_rfl) ?_
      refine gr_offV (j := 25) (d := 38) (want := false) (u := .bool true) rfl (by kernel_rfl) (by kernel_rfl) (fun a V H => (H.rel 25 38 (by kernel_rfl) (by kernel_rfl) rfl)) (by kernel_rfl) ?_
      refine gr_offV (j := 25) (d := 38) (want := false) (u := .bool true) rfl (by kernel_rfl) (by kernel_rfl) (fun a V H => (H.rel 25 38 (by kernel_rfl) (by kernel_rfl) rfl)) (by kernel_rfl) ?_
      refine gr_onV (j := 21) (d := 34) (want := true) (u := .bool true) rfl (by kernel_rfl) (by kernel_rfl) (fun a V H => (H.rel 21 34 (by kernel_rfl) (by kernel_rfl) rfl)) (by kernel_rfl) (fun a V H K Q hK => op_quiet (quiet_pickT (.tmp 38) (.const (.bool true)) (.tmp 42) (H.rel 25 38 (by kernel_rfl) (by kernel_rfl) rfl) (show a.eval (.const (.bool true)) = .bool true from rfl) (by kernel_rfl)) hK) ?_
      refine gr_val rfl (by kernel_rfl) (fun a V H K Q hK => op_quiet (quiet_pickT (.tmp 34) (.tmp 43) (.const (.bool false)) (H.rel 21 34 (by kernel_rfl) (by kernel_rfl) rfl) (H.rel 30 43 (by kernel_rfl) (by kernel_rfl) rfl) (by kernel_rfl)) hK) ?_
      refine gr_val rfl (by kernel_rfl) (fun a V H K Q hK => op_quiet (quiet_move (.tmp 44) (H.rel 31 44 (by kernel_rfl) (by kernel_rfl) rfl) (.inl rfl)) hK) ?_
      refine gr_onV (j := 32) (d := 45) (want := true) (u := .bool true) rfl (by kernel_rfl) (by kernel_rfl) (fun a V H => (H.rel 32 45 (by kernel_rfl) (by kernel_rfl) rfl)) (by kernel_rfl) (fun a V H K Q hK => op_callK _ #[] (by kernel_rfl) (by kernel_rfl) (by kernel_rfl) (map0 ) (KA.out _ (next_below hB H.frame)) (by kernel_rfl) hK) ?_
      refine gr_val rfl (by kernel_rfl) (fun a V H K Q hK => op_quiet (quiet_pickT (.tmp 45) (.tmp 46) (.const (.bool false)) (H.rel 32 45 (by kernel_rfl) (by kernel_rfl) rfl) (H.rel 33 46 (by kernel_rfl) (by kernel_rfl) rfl) (by kernel_rfl)) hK) ?_
      refine gr_val rfl (by kernel_rfl) (fun a V H K Q hK => op_quiet (quiet_move (.tmp 47) (H.rel 34 47 (by kernel_rfl) (by kernel_rfl) rfl) (.inr rfl)) hK) ?_
      exact gr_nil
    case hf1 =>
    intro x V hF
    have e0 : x 0 = .agg #[.int .u8 oa, .bool ia1, .bool pa1, .slice A1 n1 c1, .bool ia2, .bool pa2, .slice A2 n2 c2] := hF.rel 0 _ rfl
    have e1 : x 1 = .bool false := hF.rel 1 _ rfl
    have e2 : x 2 = .agg #[.int .u8 oa, .bool ia1, .bool pa1, .slice A1 n1 c1, .bool ia2, .bool pa2, .slice A2 n2 c2] := hF.rel 2 _ rfl
    have e3 : x 3 = .bool false := hF.rel 3 _ rfl
    have e4 : x 4 = .bool true := hF.rel 4 _ rfl
    have e5 : x 5 = .bool true := hF.rel 5 _ rfl
    have e6 : x 6 = .agg #[.int .u8 oa, .bool ia1, .bool pa1, .slice A1 n1 c1, .bool ia2, .bool pa2, .slice A2 n2 c2] := hF.rel 6 _ rfl
    have e7 : x 7 = .slice A3 n3 c3 := hF.rel 7 _ rfl
    have e8 : x 8 = .bool true := hF.rel 8 _ rfl
    have e9 : x 9 = .agg #[.int .u8 oa, .bool ia1, .bool pa1, .slice A1 n1 c1, .bool ia2, .bool pa2, .slice A2 n2 c2] := hF.rel 9 _ rfl
    have e10 : x 10 = .slice A3 n3 c3 := hF.rel 10 _ rfl
    have e11 : x 11 = .bool true := hF.rel 11 _ rfl
    have e12 : x 12 = .bool true := hF.rel 12 _ rfl
    have e13 : x 13 = .bool true := hF.rel 13 _ rfl
    have e14 : x 14 = .bool true := hF.rel 14 _ rfl
    have e15 : x 15 = .agg #[.int .u8 oa, .bool ia1, .bool pa1, .slice A1 n1 c1, .bool ia2, .bool pa2, .slice A2 n2 c2] := hF.rel 15 _ rfl
    have e16 : x 16 = .bool false := hF.rel 16 _ rfl
    have e17 : x 17 = .agg #[.int .u8 oa, .bool ia1, .bool pa1, .slice A1 n1 c1, .bool ia2, .bool pa2, .slice A2 n2 c2] := hF.rel 17 _ rfl
    have e18 : x 18 = .bool false := hF.rel 18 _ rfl
    have e19 : x 19 = .bool true := hF.rel 19 _ rfl
    have e20 : x 20 = .bool true := hF.rel 20 _ rfl
    have e21 : x 21 = .bool true := hF.rel 21 _ rfl
    have e22 : x 22 = .agg #[.int .u8 oa, .bool ia1, .bool pa1, .slice A1 n1 c1, .bool ia2, .bool pa2, .slice A2 n2 c2] := hF.rel 22 _ rfl
    have e23 : x 23 = .bool false := hF.rel 23 _ rfl
    have e24 : x 24 = .bool true := hF.rel 24 _ rfl
    have e25 : x 25 = .bool true := hF.rel 25 _ rfl
    have e26 : x 26 = undef := hF.rel 26 _ rfl
    have e27 : x 27 = undef := hF.rel 27 _ rfl
    have e28 : x 28 = undef := hF.rel 28 _ rfl
    have e29 : x 29 = undef := hF.rel 29 _ rfl
    have e30 : x 30 = .bool true := hF.rel 30 _ rfl
    have e31 : x 31 = .bool true := hF.rel 31 _ rfl
    have e32 : x 32 = .bool true := hF.rel 32 _ rfl
    have e33 : x 33 = .bool true := hF.rel 33 _ rfl
    have e34 : x 34 = .bool true := hF.rel 34 _ rfl
    have e35 : x 35 = .bool true := hF.rel 35 _ rfl
    have hbf := hF.frame
    clear hF
    simp only [Sch.finL, List.setIfInBounds_toArray, List.set_cons_zero, List.set_cons_succ, e0, e1, e2, e3, e4, e5, e6, e7, e8, e9, e10, e11, e12, e13, e14, e15, e16, e17, e18, e19, e20, e21, e22, e23, e24, e25, e26, e27, e28, e29, e30, e31, e32, e33, e34, e35]
    clear e0 e1 e2 e3 e4 e5 e6 e7 e8 e9 e10 e11 e12 e13 e14 e15 e16 e17 e18 e19 e20 e21 e22 e23 e24 e25 e26 e27 e28 e29 e30 e31 e32 e33 e34 e35
    refine tail_nil ?_
    go_wp2_with fail
    go_ret
    exact ⟨rfl, next_below HB0.out (next_below hB hbf)⟩
  · cases hne rfl
  · refine wp_R [13, 14, 15, 16, 17, 18, 19, 20, 21, 22, 23, 24, 25, 26, 27, 28, 29, 30, 31, 32, 33, 34, 35, 36, 37, 38, 39, 40, 41, 42, 43, 44, 45, 46, 47, 4] [Rk.val (.agg #[.int .u8 oa, .bool ia1, .bool pa1, .slice A1 n1 c1, .bool ia2, .bool pa2, .slice A2 n2 c2]), Rk.val (.bool true), Rk.val (.agg #[.int .u8 oa, .bool ia1, .bool pa1, .slice A1 n1 c1, .bool ia2, .bool pa2, .slice A2 n2 c2]), Rk.val (.bool true), Rk.val (.bool true), Rk.val (.bool true), Rk.val (.agg #[.int .u8 oa, .bool ia1, .bool pa1, .slice A1 n1 c1, .bool ia2, .bool pa2, .slice A2 n2 c2]), Rk.val (.slice A3 n3 c3), Rk.val (.bool false), Rk.val (.agg #[.int .u8 oa, .bool ia1, .bool pa1, .slice A1 n1 c1, .bool ia2, .bool pa2, .slice A2 n2 c2]), Rk.val (.slice A3 n3 c3), Rk.val (.bool false), Rk.val (.bool true), Rk.val (.bool true), Rk.val (.bool true), Rk.val (.agg #[.int .u8 oa, .bool ia1, .bool pa1, .slice A1 n1 c1, .bool ia2, .bool pa2, .slice A2 n2 c2]), Rk.val (.bool false), Rk.val (.agg #[.int .u8 oa, .bool ia1, .bool pa1, .slice A1 n1 c1, .bool ia2, .bool pa2, .slice A2 n2 c2]), Rk.val (.bool false), Rk.val (.bool true), Rk.val (.bool true), Rk.val (.bool true), Rk.val (.agg #[.int .u8 oa, .bool ia1, .bool pa1, .slice A1 n1 c1, .bool ia2, .bool pa2, .slice A2 n2 c2]), Rk.val (.bool false), Rk.val (.bool true), Rk.val (.bool true), Rk.val undef, Rk.val undef, Rk.val undef, Rk.val undef, Rk.val (.bool true), Rk.val (.bool true), Rk.val (.bool true), Rk.val (.bool true), Rk.val (.bool true), Rk.val (.bool true)] rfl (by kernel_rfl) (by kernel_rfl) (by kernel_rfl) (by kernel_rfl) ?hg1 _ (by rfl) ?hf1
    case hg1 =>
      refine gr_val rfl (by kernel_rfl) (fun a V H K Q hK => op_quiet (quiet_agg _ (.tmp 2) _ 0 (H.old 2 (by kernel_rfl) (by kernel_rfl)) #[.int .u8 oa, .bool ia1, .bool pa1, .slice A1 n1 c1, .bool ia2, .bool pa2, .slice A2 n2 c2] (fun j v hj => X0.out _ (next_below hB H.frame) _ v (part_at 0 ⟨_, rfl⟩ j v hj)) Tryd.underlying31 rfl (by kernel_rfl) (by kernel_rfl)) hK) ?_
      refine gr_val rfl (by kernel_rfl) (fun a V H K Q hK => op_callK _ #[.agg #[.int .u8 oa, .bool ia1, .bool pa1, .slice A1 n1 c1, .bool ia2, .bool pa2, .slice A2 n2 c2]] (by kernel_rfl) (by kernel_rfl) (by kernel_rfl) (map1 (H.rel 0 13 (by kernel_rfl) (by kernel_rfl) rfl)) (K1.out _ (next_below hB H.frame)) (by kernel_rfl) hK) ?_
      refine gr_val rfl (by kernel_rfl) (fun a V H K Q hK => op_quiet (quiet_agg _ (.tmp 2) _ 0 (H.old 2 (by kernel_rfl) (by kernel_rfl)) #[.int .u8 oa, .bool ia1, .bool pa1, .slice A1 n1 c1, .bool ia2, .bool pa2, .slice A2 n2 c2] (fun j v hj => X0.out _ (next_below hB H.frame) _ v (part_at 0 ⟨_, rfl⟩ j v hj)) Tryd.underlying31 rfl (by kernel_rfl) (by kernel_rfl)) hK) ?_
      refine gr_val rfl (by kernel_rfl) (fun a V H K Q hK => op_callK _ #[.agg #[.int .u8 oa, .bool ia1, .bool pa1, .slice A1 n1 c1, .bool ia2, .bool pa2, .slice A2 n2 c2]] (by kernel_rfl) (by kernel_rfl) (by kernel_rfl) (map1 (H.rel 2 15 (by kernel_rfl) (by kernel_rfl) rfl)) (K2.out _ (next_below hB H.frame)) (by kernel_rfl) hK) ?_
      refine gr_val rfl (by kernel_rfl) (fun a V H K Q hK => op_quiet (quiet_eqlB (.tmp 14) (.tmp 16) true true true 4 4 Tryd.underlying4 rfl (H.rel 1 14 (by kernel_rfl) (by kernel_rfl) rfl) (H.rel 3 16 (by kernel_rfl) (by kernel_rfl) rfl) (by kernel_rfl)) hK) ?_
      refine gr_val rfl (by kernel_rfl) (fun a V H K Q hK => op_quiet (quiet_move (.tmp 17) (H.rel 4 17 (by kernel_rfl) (by kernel_rfl) rfl) (.inl rfl)) hK) ?_
      refine gr_onV (j := 5) (d := 18) (want := true) (u := .bool true) rfl (by kernel_rfl) (by kernel_rfl) (fun a V H => (H.rel 5 18 (by kernel_rfl) (by kernel_rfl) rfl)) (by kernel_rfl) (fun a V H K Q hK => op_quiet (quiet_agg _ (.tmp 2) _ 0 (H.old 2 (by kernel_rfl) (by kernel_rfl)) #[.int .u8 oa, .bool ia1, .bool pa1, .slice A1 n1 c1, .bool ia2, .bool pa2, .slice A2 n2 c2] (fun j v hj => X0.out _ (next_below hB H.frame) _ v (part_at 0 ⟨_, rfl⟩ j v hj)) Tryd.underlying31 rfl (by kernel_rfl) (by kernel_rfl)) hK) ?_
      refine gr_onV (j := 5) (d := 18) (want := true) (u := .bool true) rfl (by kernel_rfl) (by kernel_rfl) (fun a V H => (H.rel 5 18 (by kernel_rfl) (by kernel_rfl) rfl)) (by kernel_rfl) (fun a V H K Q hK => op_quiet (quiet_move (.tmp 1) (H.old 1 (by kernel_rfl) (by kernel_rfl)) (.inl rfl)) hK) ?_
      refine gr_onV (j := 5) (d := 18) (want := true) (u := .bool true) rfl (by kernel_rfl) (by kernel_rfl) (fun a V H => (H.rel 5 18 (by kernel_rfl) (by kernel_rfl) rfl)) (by kernel_rfl) (fun a V H K Q hK => op_callK _ #[.agg #[.int .u8 oa, .bool ia1, .bool pa1, .slice A1 n1 c1, .bool ia2, .bool pa2, .slice A2 n2 c2], .slice A3 n3 c3] (by kernel_rfl) (by kernel_rfl) (by kernel_rfl) (map2 (H.rel 6 19 (by kernel_rfl) (by kernel_rfl) rfl) (H.rel 7 20 (by kernel_rfl) (by kernel_rfl) rfl)) (K3.out _ (next_below hB H.frame)) (by kernel_rfl) hK) ?_
      refine gr_onV (j := 5) (d := 18) (want := true) (u := .bool true) rfl (by kernel_rfl) (by kernel_rfl) (fun a V H => (H.rel 5 18 (by kernel_rfl) (by kernel_rfl) rfl)) (by kernel_rfl) (fun a V H K Q hK => op_quiet (quiet_agg _ (.tmp 2) _ 0 (H.old 2 (by kernel_rfl) (by kernel_rfl)) #[.int .u8 oa, .bool ia1, .bool pa1, .slice A1 n1 c1, .bool ia2, .bool pa2, .slice A2 n2 c2] (fun j v hj => X0.out _ (next_below hB H.frame) _ v (part_at 0 ⟨_, rfl⟩ j v hj)) Tryd.underlying31 rfl (by kernel_rfl) (by kernel_rfl)) hK) ?_
      refine gr_onV (j := 5) (d := 18) (want := true) (u := .bool true) rfl (by kernel_rfl) (by kernel_rfl) (fun a V H => (H.rel 5 18 (by kernel_rfl) (by kernel_rfl) rfl)) (by kernel_rfl) (fun a V H K Q hK => op_quiet (quiet_move (.tmp 1) (H.old 1 (by kernel_rfl) (by kernel_rfl)) (.inl rfl)) hK) ?_
      refine gr_onV (j := 5) (d := 18) (want := true) (u := .bool true) rfl (by kernel_rfl) (by kernel_rfl) (fun a V H => (H.rel 5 18 (by kernel_rfl) (by kernel_rfl) rfl)) (by kernel_rfl) (fun a V H K Q hK => op_callK _ #[.agg #[.int .u8 oa, .bool ia1, .bool pa1, .slice A1 n1 c1, .bool ia2, .bool pa2, .slice A2 n2 c2], .slice A3 n3 c3] (by kernel_rfl) (by kernel_rfl) (by kernel_rfl) (map2 (H.rel 9 22 (by kernel_rfl) (by kernel_rfl) rfl) (H.rel 10 23 (by kernel_rfl) (by kernel_rfl) rfl)) (K4.out _ (next_below hB H.frame)) (by kernel_rfl) hK) ?_
      refine gr_onV (j := 5) (d := 18) (want := true) (u := .bool true) rfl (by kernel_rfl) (by kernel_rfl) (fun a V H => (H.rel 5 18 (by kernel_rfl) (by kernel_rfl) rfl)) (by kernel_rfl) (fun a V H K Q hK => op_quiet (quiet_eqlB (.tmp 21) (.tmp 24) false false true 4 4 Tryd.underlying4 rfl (H.rel 8 21 (by kernel_rfl) (by kernel_rfl) rfl) (H.rel 11 24 (by kernel_rfl) (by kernel_rfl) rfl) (by kernel_rfl)) hK) ?_
      refine gr_val rfl (by kernel_rfl) (fun a V H K Q hK => op_quiet (quiet_pickT (.tmp 18) (.tmp 25) (.const (.bool false)) (H.rel 5 18 (by kernel_rfl) (by kernel_rfl) rfl) (H.rel 12 25 (by kernel_rfl) (by kernel_rfl) rfl) (by kernel_rfl)) hK) ?_
      refine gr_val rfl (by kernel_rfl) (fun a V H K Q hK => op_quiet (quiet_move (.tmp 26) (H.rel 13 26 (by kernel_rfl) (by kernel_rfl) rfl) (.inl rfl)) hK) ?_
      refine gr_onV (j := 14) (d := 27) (want := true) (u := .bool true) rfl (by kernel_rfl) (by kernel_rfl) (fun a V H => (H.rel 14 27 (by kernel_rfl) (by kernel_rfl) rfl)) (by kernel_rfl) (fun a V H K Q hK => op_quiet (quiet_agg _ (.tmp 2) _ 0 (H.old 2 (by kernel_rfl) (by kernel_rfl)) #[.int .u8 oa, .bool ia1, .bool pa1, .slice A1 n1 c1, .bool ia2, .bool pa2, .slice A2 n2 c2] (fun j v hj => X0.out _ (next_below hB H.frame) _ v (part_at 0 ⟨_, rfl⟩ j v hj)) Tryd.underlying31 rfl (by kernel_rfl) (by kernel_rfl)) hK) ?_
      refine gr_onV (j := 14) (d := 27) (want := true) (u := .bool true) rfl (by kernel_rfl) (by kernel_rfl) (fun a V H => (H.rel 14 27 (by kernel_rfl) (by kernel_rfl) rfl)) (by kernel_rfl) (fun a V H K Q hK => op_callK _ #[.agg #[.int .u8 oa, .bool ia1, .bool pa1, .slice A1 n1 c1, .bool ia2, .bool pa2, .slice A2 n2 c2]] (by kernel_rfl) (by kernel_rfl) (by kernel_rfl) (map1 (H.rel 15 28 (by kernel_rfl) (by kernel_rfl) rfl)) (K5.out _ (next_below hB H.frame)) (by kernel_rfl) hK) ?_
      refine gr_onV (j := 14) (d := 27) (want := true) (u := .bool true) rfl (by kernel_rfl) (by kernel_rfl) (fun a V H => (H.rel 14 27 (by kernel_rfl) (by kernel_rfl) rfl)) (by kernel_rfl) (fun a V H K Q hK => op_quiet (quiet_agg _ (.tmp 2) _ 0 (H.old 2 (by kernel_rfl) (by kernel_rfl)) #[.int .u8 oa, .bool ia1, .bool pa1, .slice A1 n1 c1, .bool ia2, .bool pa2, .slice A2 n2 c2] (fun j v hj => X0.out _ (next_below hB H.frame) _ v (part_at 0 ⟨_, rfl⟩ j v hj)) Tryd.underlying31 rfl (by kernel_rfl) (by kernel_rfl)) hK) ?_
      refine gr_onV (j := 14) (d := 27) (want := true) (u := .bool true) rfl (by kernel_rfl) (by kernel_rfl) (fun a V H => (H.rel 14 27 (by kernel_rfl) (by kernel_rfl) rfl)) (by kernel_rfl) (fun a V H K Q hK => op_callK _ #[.agg #[.int .u8 oa, .bool ia1, .bool pa1, .slice A1 n1 c1, .bool ia2, .bool pa2, .slice A2 n2 c2]] (by kernel_rfl) (by kernel_rfl) (by kernel_rfl) (map1 (H.rel 17 30 (by kernel_rfl) (by kernel_rfl) rfl)) (K6.out _ (next_below hB H.frame)) (by kernel_rfl) hK) ?_
      refine gr_onV (j := 14) (d := 27) (want := true) (u := .bool true) rfl (by kernel_rfl) (by kernel_rfl) (fun a V H => (H.rel 14 27 (by kernel_rfl) (by kernel_rfl) rfl)) (by kernel_rfl) (fun a V H K Q hK => op_quiet (quiet_eqlB (.tmp 29) (.tmp 31) false false true 4 4 Tryd.underlying4 rfl (H.rel 16 29 (by kernel_rfl) (by kernel_rfl) rfl) (H.rel 18 31 (by kernel_rfl) (by kernel_rfl) rfl) (by kernel_rfl)) hK) ?_
      refine gr_val rfl (by kernel_rfl) (fun a V H K Q hK => op_quiet (quiet_pickT (.tmp 27) (.tmp 32) (.const (.bool false)) (H.rel 14 27 (by kernel_rfl) (by kernel_rfl) rfl) (H.rel 19 32 (by kernel_rfl) (by kernel_rfl) rfl) (by kernel_rfl)) hK) ?_
      refine gr_val rfl (by kernel_rfl) (fun a V H K Q hK => op_quiet (quiet_move (.tmp 33) (H.rel 20 33 (by kernel_rfl) (by kernel_rfl) rfl) (.inl rfl)) hK) ?_
      refine gr_onV (j := 21) (d := 34) (want := true) (u := .bool true) rfl (by kernel_rfl) (by kernel_rfl) (fun a V H => (H.rel 21 34 (by kernel_rfl) (by kernel_rfl) rfl)) (by kernel_rfl) (fun a V H K Q hK => op_quiet (quiet_agg _ (.tmp 2) _ 0 (H.old 2 (by kernel_rfl) (by kernel_rfl)) #[.int .u8 oa, .bool ia1, .bool pa1, .slice A1 n1 c1, .bool ia2, .bool pa2, .slice A2 n2 c2] (fun j v hj => X0.out _ (next_below hB H.frame) _ v (part_at 0 ⟨_, rfl⟩ j v hj)) Tryd.underlying31 rfl (by kernel_rfl) (by kernel_rfl)) hK) ?_
      refine gr_onV (j := 21) (d := 34) (want := true) (u := .bool true) rfl (by kernel_rfl) (by kernel_rfl) (fun a V H => (H.rel 21 34 (by kernel_rfl) (by kernel_rfl) rfl)) (by kernel_rfl) (fun a V H K Q hK => op_callK _ #[.agg #[.int .u8 oa, .bool ia1, .bool pa1, .slice A1 n1 c1, .bool ia2, .bool pa2, .slice A2 n2 c2]] (by kernel_rfl) (by kernel_rfl) (by kernel_rfl) (map1 (H.rel 22 35 (by kernel_rfl) (by kernel_rfl) rfl)) (K5.out _ (next_below hB H.frame)) (by kernel_rfl) hK) ?_
      refine gr_onV (j := 21) (d := 34) (want := true) (u := .bool true) rfl (by kernel_rfl) (by kernel_rfl) (fun a V H => (H.rel 21 34 (by kernel_rfl) (by kernel_rfl) rfl)) (by kernel_rfl) (fun a V H K Q hK => op_quiet (quiet_not 4 (.tmp 36) (H.rel 23 36 (by kernel_rfl) (by kernel_rfl) rfl) (by kernel_rfl)) hK) ?_
      refine gr_onV (j := 21) (d := 34) (want := true) (u := .bool true) rfl (by kernel_rfl) (by kernel_rfl) (fun a V H => (H.rel 21 34 (by kernel_rfl) (by kernel_rfl) rfl)) (by kernel_rfl) (fun a V H K Q hK => op_quiet (quiet_move (.tmp 37) (H.rel 24 37 (by kernel_rfl) (by kernel_rfl) rfl) (.inl rfl)) hK) ?_
      refine gr_offV (j := 25) (d := 38) (want := false) (u := .bool true) rfl (by kernel_rfl) (by kernel_rfl) (fun a V H => (H.rel 25 38 (by kernel_rfl) (by kernel_rfl) rfl)) (by kernel_rfl) ?_
      refine gr_offV (j := 25) (d := 38) (want := false) (u := .bool true) rfl (by kernel_rfl) (by kernel_rfl) (fun a V H => (H.rel 25 38 (by kernel_rfl) (by kernel_rfl) rfl)) (by kernel_rfl) ?_
      refine gr_offV (j := 25) (d := 38) (want := false) (u := .bool true) rfl (by kernel_rfl) (by kernel_rfl) (fun a V H => (H.rel 25 38 (by kernel_rfl) (by kernel_rfl) rfl)) (by kernel_rfl) ?_
      refine gr_offV (j := 25) (d := 38) (want := false) (u := .bool true) rfl (by kernel_rfl) (by kernel_rfl) (fun a V H => (H.rel 25 38 (by kernel_rfl) (by kernel_rfl) rfl)) (by kernel_rfl) ?_
      refine gr_onV (j := 21) (d := 34) (want := true) (u := .bool true) rfl (by kernel_rfl) (by kernel_rfl) (fun a V H => (H.rel 21 34 (by kernel_rfl) (by kernel_rfl) rfl)) (by kernel_rfl) (fun a V H K Q hK => op_quiet (quiet_pickT (.tmp 38) (.const (.bool true)) (.tmp 42) (H.rel 25 38 (by kernel_rfl) (by kernel_rfl) rfl) (show a.eval (.const (.bool true)) = .bool true from rfl) (by kernel_rfl)) hK) ?_
      refine gr_val rfl (by kernel_rfl) (fun a V H K Q hK => op_quiet (quiet_pickT (.tmp 34) (.tmp 43) (.const (.bool false)) (H.rel 21 34 (by kernel_rfl) (by kernel_rfl) rfl) (H.rel 30 43 (by kernel_rfl) (by kernel_rfl) rfl) (by kernel_rfl)) hK) ?_
      refine gr_val rfl (by kernel_rfl) (fun a V H K Q hK => op_quiet (quiet_move (.tmp 44) (H.rel 31 44 (by kernel_rfl) (by kernel_rfl) rfl) (.inl rfl)) hK) ?_
      refine gr_onV (j := 32) (d := 45) (want := true) (u := .bool true) rfl (by kernel_rfl) (by kernel_rfl) (fun a V H => (H.rel 32 45 (by kernel_rfl) (by kernel_rfl) rfl)) (by kernel_rfl) (fun a V H K Q hK => op_callK _ #[] (by kernel_rfl) (by kernel_rfl) (by kernel_rfl) (map0 ) (KA.out _ (next_below hB H.frame)) (by kernel_rfl) hK) ?_
      refine gr_val rfl (by kernel_rfl) (fun a V H K Q hK => op_quiet (quiet_pickT (.tmp 45) (.tmp 46) (.const (.bool false)) (H.rel 32 45 (by kernel_rfl) (by kernel_rfl) rfl) (H.rel 33 46 (by kernel_rfl) (by kernel_rfl) rfl) (by kernel_rfl)) hK) ?_
      refine gr_val rfl (by kernel_rfl) (fun a V H K Q hK => op_quiet (quiet_move (.tmp 47) (H.rel 34 47 (by kernel_rfl) (by kernel_rfl) rfl) (.inr rfl)) hK) ?_
      exact gr_nil
    case hf1 =>
    intro x V hF
    have e0 : x 0 = .agg #[.int .u8 oa, .bool ia1, .bool pa1, .slice A1 n1 c1, .bool ia2, .bool pa2, .slice A2 n2 c2] := hF.rel 0 _ rfl
    have e1 : x 1 = .bool true := hF.rel 1 _ rfl
    have e2 : x 2 = .agg #[.int .u8 oa, .bool ia1, .bool pa1, .slice A1 n1 c1, .bool ia2, .bool pa2, .slice A2 n2 c2] := hF.rel 2 _ rfl
    have e3 : x 3 = .bool true := hF.rel 3 _ rfl
    have e4 : x 4 = .bool true := hF.rel 4 _ rfl
    have e5 : x 5 = .bool true := hF.rel 5 _ rfl
    have e6 : x 6 = .agg #[.int .u8 oa, .bool ia1, .bool pa1, .slice A1 n1 c1, .bool ia2, .bool pa2, .slice A2 n2 c2] := hF.rel 6 _ rfl
    have e7 : x 7 = .slice A3 n3 c3 := hF.rel 7 _ rfl
    have e8 : x 8 = .bool false := hF.rel 8 _ rfl
    have e9 : x 9 = .agg #[.int .u8 oa, .bool ia1, .bool pa1, .slice A1 n1 c1, .bool ia2, .bool pa2, .slice A2 n2 c2] := hF.rel 9 _ rfl
    have e10 : x 10 = .slice A3 n3 c3 := hF.rel 10 _ rfl
    have e11 : x 11 = .bool false := hF.rel 11 _ rfl
    have e12 : x 12 = .bool true := hF.rel 12 _ rfl
    have e13 : x 13 = .bool true := hF.rel 13 _ rfl
    have e14 : x 14 = .bool true := hF.rel 14 _ rfl
    have e15 : x 15 = .agg #[.int .u8 oa, .bool ia1, .bool pa1, .slice A1 n1 c1, .bool ia2, .bool pa2, .slice A2 n2 c2] := hF.rel 15 _ rfl
    have e16 : x 16 = .bool false := hF.rel 16 _ rfl
    have e17 : x 17 = .agg #[.int .u8 oa, .bool ia1, .bool pa1, .slice A1 n1 c1, .bool ia2, .bool pa2, .slice A2 n2 c2] := hF.rel 17 _ rfl
    have e18 : x 18 = .bool false := hF.rel 18 _ rfl
    have e19 : x 19 = .bool true := hF.rel 19 _ rfl
    have e20 : x 20 = .bool true := hF.rel 20 _ rfl
    have e21 : x 21 = .bool true := hF.rel 21 _ rfl
    have e22 : x 22 = .agg #[.int .u8 oa, .bool ia1, .bool pa1, .slice A1 n1 c1, .bool ia2, .bool pa2, .slice A2 n2 c2] := hF.rel 22 _ rfl
    have e23 : x 23 = .bool false := hF.rel 23 _ rfl
    have e24 : x 24 = .bool true := hF.rel 24 _ rfl
    have e25 : x 25 = .bool true := hF.rel 25 _ rfl
    have e26 : x 26 = undef := hF.rel 26 _ rfl
    have e27 : x 27 = undef := hF.rel 27 _ rfl
    have e28 : x 28 = undef := hF.rel 28 _ rfl
    have e29 : x 29 = undef := hF.rel 29 _ rfl
    have e30 : x 30 = .bool true := hF.rel 30 _ rfl
    have e31 : x 31 = .bool true := hF.rel 31 _ rfl
    have e32 : x 32 = .bool true := hF.rel 32 _ rfl
    have e33 : x 33 = .bool true := hF.rel 33 _ rfl
    have e34 : x 34 = .bool true := hF.rel 34 _ rfl
    have e35 : x 35 = .bool true := hF.rel 35 _ rfl
    have hbf := hF.frame
    clear hF
    simp only [Sch.finL, List.setIfInBounds_toArray, List.set_cons_zero, List.set_cons_succ, e0, e1, e2, e3, e4, e5, e6, e7, e8, e9, e10, e11, e12, e13, e14, e15, e16, e17, e18, e19, e20, e21, e22, e23, e24, e25, e26, e27, e28, e29, e30, e31, e32, e33, e34, e35]
    clear e0 e1 e2 e3 e4 e5 e6 e7 e8 e9 e10 e11 e12 e13 e14 e15 e16 e17 e18 e19 e20 e21 e22 e23 e24 e25 e26 e27 e28 e29 e30 e31 e32 e33 e34 e35
    refine tail_nil ?_
    go_wp2_with fail
    go_ret
    exact ⟨rfl, next_below HB0.out (next_below hB hbf)⟩
  · refine wp_R [13, 14, 15, 16, 17, 18, 19, 20, 21, 22, 23, 24, 25, 26, 27, 28, 29, 30, 31, 32, 33, 34, 35, 36, 37, 38, 39, 40, 41, 42, 43, 44, 45, 46, 47, 4] [Rk.val (.agg #[.int .u8 oa, .bool ia1, .bool pa1, .slice A1 n1 c1, .bool ia2, .bool pa2, .slice A2 n2 c2]), Rk.val (.bool true), Rk.val (.agg #[.int .u8 oa, .bool ia1, .bool pa1, .slice A1 n1 c1, .bool ia2, .bool pa2, .slice A2 n2 c2]), Rk.val (.bool true), Rk.val (.bool true), Rk.val (.bool true), Rk.val (.agg #[.int .u8 oa, .bool ia1, .bool pa1, .slice A1 n1 c1, .bool ia2, .bool pa2, .slice A2 n2 c2]), Rk.val (.slice A3 n3 c3), Rk.val (.bool false), Rk.val (.agg #[.int .u8 oa, .bool ia1, .bool pa1, .slice A1 n1 c1, .bool ia2, .bool pa2, .slice A2 n2 c2]), Rk.val (.slice A3 n3 c3), Rk.val (.bool false), Rk.val (.bool true), Rk.val (.bool true), Rk.val (.bool true), Rk.val (.agg #[.int .u8 oa, .bool ia1, .bool pa1, .slice A1 n1 c1, .bool ia2, .bool pa2, .slice A2 n2 c2]), Rk.val (.bool true), Rk.val (.agg #[.int .u8 oa, .bool ia1, .bool pa1, .slice A1 n1 c1, .bool ia2, .bool pa2, .slice A2 n2 c2]), Rk.val (.bool true), Rk.val (.bool true), Rk.val (.bool true), Rk.val (.bool true), Rk.val (.agg #[.int .u8 oa, .bool ia1, .bool pa1, .slice A1 n1 c1, .bool ia2, .bool pa2, .slice A2 n2 c2]), Rk.val (.bool true), Rk.val (.bool false), Rk.val (.bool false), Rk.val (.agg #[.int .u8 oa, .bool ia1, .bool pa1, .slice A1 n1 c1, .bool ia2, .bool pa2, .slice A2 n2 c2]), Rk.val (.slice A3 n3 c3), Rk.val (.bool false), Rk.val (.bool true), Rk.val (.bool true), Rk.val (.bool true), Rk.val (.bool true), Rk.val (.bool true), Rk.val (.bool true), Rk.val (.bool true)] rfl (by kernel_rfl) (by kernel_rfl) (by kernel_rfl) (by kernel_rfl) ?hg1 _ (by rfl) ?hf1
    case hg1 =>
      refine gr_val rfl (by kernel_rfl) (fun a V H K Q hK => op_quiet (quiet_agg _ (.tmp 2) _ 0 (H.old 2 (by kernel_rfl) (by kernel_rfl)) #[.int .u8 oa, .bool ia1, .bool pa1, .slice A1 n1 c1, .bool ia2, .bool pa2, .slice A2 n2 c2] (fun j v hj => X0.out _ (next_below hB H.frame) _ v (part_at 0 ⟨_, rfl⟩ j v hj)) Tryd.underlying31 rfl (by kernel_rfl) (by kernel_rfl)) hK) ?_
      refine gr_val rfl (by kernel_rfl) (fun a V H K Q hK => op_callK _ #[.agg #[.int .u8 oa, .bool ia1, .bool pa1, .slice A1 n1 c1, .bool ia2, .bool pa2, .slice A2 n2 c2]] (by kernel_rfl) (by kernel_rfl) (by kernel_rfl) (map1 (H.rel 0 13 (by kernel_rfl) (by kernel_rfl) rfl)) (K1.out _ (next_below hB H.frame)) (by kernel_rfl) hK) ?_
      refine gr_val rfl (by kernel_rfl) (fun a V H K Q hK => op_quiet (quiet_agg _ (.tmp 2) _ 0 (H.old 2 (by kernel_rfl) (by kernel_rfl)) #[.int .u8 oa, .bool ia1, .bool pa1, .slice A1 n1 c1, .bool ia2, .bool pa2, .slice A2 n2 c2] (fun j v hj => X0.out _ (next_below hB H.frame) _ v (part_at 0 ⟨_, rfl⟩ j v hj)) Tryd.underlying31 rfl (by kernel_rfl) (by kernel_rfl)) hK) ?_
      refine gr_val rfl (by kernel_rfl) (fun a V H K Q hK => op_callK _ #[.agg #[.int .u8 oa, .bool ia1, .bool pa1, .slice A1 n1 c1, .bool ia2, .bool pa2, .slice A2 n2 c2]] (by kernel_rfl) (by kernel_rfl) (by kernel_rfl) (map1 (H.rel 2 15 (by kernel_rfl) (by kernel_rfl) rfl)) (K2.out _ (next_below hB H.frame)) (by kernel_rfl) hK) ?_
      refine gr_val rfl (by kernel_rfl) (fun a V H K Q hK => op_quiet (quiet_eqlB (.tmp 14) (.tmp 16) true true true 4 4 Tryd.underlying4 rfl (H.rel 1 14 (by kernel_rfl) (by kernel_rfl) rfl) (H.rel 3 16 (by kernel_rfl) (by kernel_rfl) rfl) (by kernel_rfl)) hK) ?_
      refine gr_val rfl (by kernel_rfl) (fun a V H K Q hK => op_quiet (quiet_move (.tmp 17) (H.rel 4 17 (by kernel_rfl) (by kernel_rfl) rfl) (.inl rfl)) hK) ?_
      refine gr_onV (j := 5) (d := 18) (want := true) (u := .bool true) rfl (by kernel_rfl) (by kernel_rfl) (fun a V H => (H.rel 5 18 (by kernel_rfl) (by kernel_rfl) rfl)) (by kernel_rfl) (fun a V H K Q hK => op_quiet (quiet_agg _ (.tmp 2) _ 0 (H.old 2 (by kernel_rfl) (by kernel_rfl)) #[.int .u8 oa, .bool ia1, .bool pa1, .slice A1 n1 c1, .bool ia2, .bool pa2, .slice A2 n2 c2] (fun j v hj => X0.out _ (next_below hB H.frame) _ v (part_at 0 ⟨_, rfl⟩ j v hj)) Tryd.underlying31 rfl (by kernel_rfl) (by kernel_rfl)) hK) ?_
      refine gr_onV (j := 5) (d := 18) (want := true) (u := .bool true) rfl (by kernel_rfl) (by kernel_rfl) (fun a V H => (H.rel 5 18 (by kernel_rfl) (by kernel_rfl) rfl)) (by kernel_rfl) (fun a V H K Q hK => op_quiet (quiet_move (.tmp 1) (H.old 1 (by kernel_rfl) (by kernel_rfl)) (.inl rfl)) hK) ?_
      refine gr_onV (j := 5) (d := 18) (want := true) (u := .bool true) rfl (by kernel_rfl) (by kernel_rfl) (fun a V H => (H.rel 5 18 (by kernel_rfl) (by kernel_rfl) rfl)) (by kernel_rfl) (fun a V H K Q hK => op_callK _ #[.agg #[.int .u8 oa, .bool ia1, .bool pa1, .slice A1 n1 c1, .bool ia2, .bool pa2, .slice A2 n2 c2], .slice A3 n3 c3] (by kernel_rfl) (by kernel_rfl) (by kernel_rfl) (map2 (H.rel 6 19 (by kernel_rfl) (by kernel_rfl) rfl) (H.rel 7 20 (by kernel_rfl) (by kernel_rfl) rfl)) (K3.out _ (next_below hB H.frame)) (by kernel_rfl) hK) ?_
      refine gr_onV (j := 5) (d := 18) (want := true) (u := .bool true) rfl (by kernel_rfl) (by kernel_rfl) (fun a V H => (H.rel 5 18 (by kernel_rfl) (by kernel_rfl) rfl)) (by kernel_rfl) (fun a V H K Q hK => op_quiet (quiet_agg _ (.tmp 2) _ 0 (H.old 2 (by kernel_rfl) (by kernel_rfl)) #[.int .u8 oa, .bool ia1, .bool pa1, .slice A1 n1 c1, .bool ia2, .bool pa2, .slice A2 n2 c2] (fun j v hj => X0.out _ (next_below hB H.frame) _ v (part_at 0 ⟨_, rfl⟩ j v hj)) Tryd.underlying31 rfl (by kernel_rfl) (by kernel_rfl)) hK) ?_
      refine gr_onV (j := 5) (d := 18) (want := true) (u := .bool true) rfl (by kernel_rfl) (by kernel_rfl) (fun a V H => (H.rel 5 18 (by kernel_rfl) (by kernel_rfl) rfl)) (by kernel_rfl) (fun a V H K Q hK => op_quiet (quiet_move (.tmp 1) (H.old 1 (by kernel_rfl) (by kernel_rfl)) (.inl rfl)) hK) ?_
      refine gr_onV (j := 5) (d := 18) (want := true) (u := .bool true) rfl (by kernel_rfl) (by kernel_rfl) (fun a V H => (H.rel 5 18 (by kernel_rfl) (by kernel_rfl) rfl)) (by kernel_rfl) (fun a V H K Q hK => op_callK _ #[.agg #[.int .u8 oa, .bool ia1, .bool pa1, .slice A1 n1 c1, .bool ia2, .bool pa2, .slice A2 n2 c2], .slice A3 n3 c3] (by kernel_rfl) (by kernel_rfl) (by kernel_rfl) (map2 (H.rel 9 22 (by kernel_rfl) (by kernel_rfl) rfl) (H.rel 10 23 (by kernel_rfl) (by kernel_rfl) rfl)) (K4.out _ (next_below hB H.frame)) (by kernel_rfl) hK) ?_
      refine gr_onV (j := 5) (d := 18) (want := true) (u := .bool true) rfl (by kernel_rfl) (by kernel_rfl) (fun a V H => (H.rel 5 18 (by kernel_rfl) (by kernel_rfl) rfl)) (by kernel_rfl) (fun a V H K Q hK => op_quiet (quiet_eqlB (.tmp 21) (.tmp 24) false false true 4 4 Tryd.underlying4 rfl (H.rel 8 21 (by kernel_rfl) (by kernel_rfl) rfl) (H.rel 11 24 (by kernel_rfl) (by kernel_rfl) rfl) (by kernel_rfl)) hK) ?_
      refine gr_val rfl (by kernel_rfl) (fun a V H K Q hK => op_quiet (quiet_pickT (.tmp 18) (.tmp 25) (.const (.bool false)) (H.rel 5 18 (by kernel_rfl) (by kernel_rfl) rfl) (H.rel 12 25 (by kernel_rfl) (by kernel_rfl) rfl) (by kernel_rfl)) hK) ?_
      refine gr_val rfl (by kernel_rfl) (fun a V H K Q hK => op_quiet (quiet_move (.tmp 26) (H.rel 13 26 (by kernel_rfl) (by kernel_rfl) rfl) (.inl rfl)) hK) ?_
      refine gr_onV (j := 14) (d := 27) (want := true) (u := .bool true) rfl (by kernel_rfl) (by kernel_rfl) (fun a V H => (H.rel 14 27 (by kernel_rfl) (by kernel_rfl) rfl)) (by kernel_rfl) (fun a V H K Q hK => op_quiet (quiet_agg _ (.tmp 2) _ 0 (H.old 2 (by kernel_rfl) (by kernel_rfl)) #[.int .u8 oa, .bool ia1, .bool pa1, .slice A1 n1 c1, .bool ia2, .bool pa2, .slice A2 n2 c2] (fun j v hj => X0.out _ (next_below hB H.frame) _ v (part_at 0 ⟨_, rfl⟩ j v hj)) Tryd.underlying31 rfl (by kernel_rfl) (by kernel_rfl)) hK) ?_
      refine gr_onV (j := 14) (d := 27) (want := true) (u := .bool true) rfl (by kernel_rfl) (by kernel_rfl) (fun a V H => (H.rel 14 27 (by kernel_rfl) (by kernel_rfl) rfl)) (by kernel_rfl) (fun a V H K Q hK => op_callK _ #[.agg #[.int .u8 oa, .bool ia1, .bool pa1, .slice A1 n1 c1, .bool ia2, .bool pa2, .slice A2 n2 c2]] (by kernel_rfl) (by kernel_rfl) (by kernel_rfl) (map1 (H.rel 15 28 (by kernel_rfl) (by kernel_rfl) rfl)) (K5.out _ (next_below hB H.frame)) (by kernel_rfl) hK) ?_
      refine gr_onV (j := 14) (d := 27) (want := true) (u := .bool true) rfl (by kernel_rfl) (by kernel_rfl) (fun a V H => (H.rel 14 27 (by kernel_rfl) (by kernel_rfl) rfl)) (by kernel_rfl) (fun a V H K Q hK => op_quiet (quiet_agg _ (.tmp 2) _ 0 (H.old 2 (by kernel_rfl) (by kernel_rfl)) #[.int .u8 oa, .bool ia1, .bool pa1, .slice A1 n1 c1, .bool ia2, .bool pa2, .slice A2 n2 c2] (fun j v hj => X0.out _ (next_below hB H.frame) _ v (part_at 0 ⟨_, rfl⟩ j v hj)) Tryd.underlying31 rfl (by kernel_rfl) (by kernel_rfl)) hK) ?_
      refine gr_onV (j := 14) (d := 27) (want := true) (u := .bool true) rfl (by kernel_rfl) (by kernel_rfl) (fun a V H => (H.rel 14 27 (by kernel_rfl) (by kernel_rfl) rfl)) (by kernel_rfl) (fun a V H K Q hK => op_callK _ #[.agg #[.int .u8 oa, .bool ia1, .bool pa1, .slice A1 n1 c1, .bool ia2, .bool pa2, .slice A2 n2 c2]] (by kernel_rfl) (by kernel_rfl) (by kernel_rfl) (map1 (H.rel 17 30 (by kernel_rfl) (by kernel_rfl) rfl)) (K6.out _ (next_below hB H.frame)) (by kernel_rfl) hK) ?_
      refine gr_onV (j := 14) (d := 27) (want := true) (u := .bool true) rfl (by kernel_rfl) (by kernel_rfl) (fun a V H => (H.rel 14 27 (by kernel_rfl) (by kernel_rfl) rfl)) (by kernel_rfl) (fun a V H K Q hK => op_quiet (quiet_eqlB (.tmp 29) (.tmp 31) true true true 4 4 Tryd.underlying4 rfl (H.rel 16 29 (by kernel_rfl) (by kernel_rfl) rfl) (H.rel 18 31 (by kernel_rfl) (by kernel_rfl) rfl) (by kernel_rfl)) hK) ?_
      refine gr_val rfl (by kernel_rfl) (fun a V H K Q hK => op_quiet (quiet_pickT (.tmp 27) (.tmp 32) (.const (.bool false)) (H.rel 14 27 (by kernel_rfl) (by kernel_rfl) rfl) (H.rel 19 32 (by kernel_rfl) (by kernel_rfl) rfl) (by kernel_rfl)) hK) ?_
      refine gr_val rfl (by kernel_rfl) (fun a V H K Q hK => op_quiet (quiet_move (.tmp 33) (H.rel 20 33 (by kernel_rfl) (by kernel_rfl) rfl) (.inl rfl)) hK) ?_
      refine gr_onV (j := 21) (d := 34) (want := true) (u := .bool true) rfl (by kernel_rfl) (by kernel_rfl) (fun a V H => (H.rel 21 34 (by kernel_rfl) (by kernel_rfl) rfl)) (by kernel_rfl) (fun a V H K Q hK => op_quiet (quiet_agg _ (.tmp 2) _ 0 (H.old 2 (by kernel_rfl) (by kernel_rfl)) #[.int .u8 oa, .bool ia1, .bool pa1, .slice A1 n1 c1, .bool ia2, .bool pa2, .slice A2 n2 c2] (fun j v hj => X0.out _ (next_below hB H.frame) _ v (part_at 0 ⟨_, rfl⟩ j v hj)) Tryd.underlying31 rfl (by kernel_rfl) (by kernel_rfl)) hK) ?_
      refine gr_onV (j := 21) (d := 34) (want := true) (u := .bool true) rfl (by kernel_rfl) (by kernel_rfl) (fun a V H => (H.rel 21 34 (by kernel_rfl) (by kernel_rfl) rfl)) (by kernel_rfl) (fun a V H K Q hK => op_callK _ #[.agg #[.int .u8 oa, .bool ia1, .bool pa1, .slice A1 n1 c1, .bool ia2, .bool pa2, .slice A2 n2 c2]] (by kernel_rfl) (by kernel_rfl) (by kernel_rfl) (map1 (H.rel 22 35 (by kernel_rfl) (by kernel_rfl) rfl)) (K5.out _ (next_below hB H.frame)) (by kernel_rfl) hK) ?_
      refine gr_onV (j := 21) (d := 34) (want := true) (u := .bool true) rfl (by kernel_rfl) (by kernel_rfl) (fun a V H => (H.rel 21 34 (by kernel_rfl) (by kernel_rfl) rfl)) (by kernel_rfl) (fun a V H K Q hK => op_quiet (quiet_not 4 (.tmp 36) (H.rel 23 36 (by kernel_rfl) (by kernel_rfl) rfl) (by kernel_rfl)) hK) ?_
      refine gr_onV (j := 21) (d := 34) (want := true) (u := .bool true) rfl (by kernel_rfl) (by kernel_rfl) (fun a V H => (H.rel 21 34 (by kernel_rfl) (by kernel_rfl) rfl)) (by kernel_rfl) (fun a V H K Q hK => op_quiet (quiet_move (.tmp 37) (H.rel 24 37 (by kernel_rfl) (by kernel_rfl) rfl) (.inl rfl)) hK) ?_
      refine gr_onV (j := 25) (d := 38) (want := false) (u := .bool false) rfl (by kernel_rfl) (by kernel_rfl) (fun a V H => (H.rel 25 38 (by kernel_rfl) (by kernel_rfl) rfl)) (by kernel_rfl) (fun a V H K Q hK => op_quiet (quiet_agg _ (.tmp 2) _ 0 (H.old 2 (by kernel_rfl) (by kernel_rfl)) #[.int .u8 oa, .bool ia1, .bool pa1, .slice A1 n1 c1, .bool ia2, .bool pa2, .slice A2 n2 c2] (fun j v hj => X0.out _ (next_below hB H.frame) _ v (part_at 0 ⟨_, rfl⟩ j v hj)) Tryd.underlying31 rfl (by kernel_rfl) (by kernel_rfl)) hK) ?_
      refine gr_onV (j := 25) (d := 38) (want := false) (u := .bool false) rfl (by kernel_rfl) (by kernel_rfl) (fun a V H => (H.rel 25 38 (by kernel_rfl) (by kernel_rfl) rfl)) (by kernel_rfl) (fun a V H K Q hK => op_quiet (quiet_move (.tmp 1) (H.old 1 (by kernel_rfl) (by kernel_rfl)) (.inl rfl)) hK) ?_
      refine gr_onV (j := 25) (d := 38) (want := false) (u := .bool false) rfl (by kernel_rfl) (by kernel_rfl) (fun a V H => (H.rel 25 38 (by kernel_rfl) (by kernel_rfl) rfl)) (by kernel_rfl) (fun a V H K Q hK => op_callK _ #[.agg #[.int .u8 oa, .bool ia1, .bool pa1, .slice A1 n1 c1, .bool ia2, .bool pa2, .slice A2 n2 c2], .slice A3 n3 c3] (by kernel_rfl) (by kernel_rfl) (by kernel_rfl) (map2 (H.rel 26 39 (by kernel_rfl) (by kernel_rfl) rfl) (H.rel 27 40 (by kernel_rfl) (by kernel_rfl) rfl)) (K3.out _ (next_below hB H.frame)) (by kernel_rfl) hK) ?_
      refine gr_onV (j := 25) (d := 38) (want := false) (u := .bool false) rfl (by kernel_rfl) (by kernel_rfl) (fun a V H => (H.rel 25 38 (by kernel_rfl) (by kernel_rfl) rfl)) (by kernel_rfl) (fun a V H K Q hK => op_quiet (quiet_not 4 (.tmp 41) (H.rel 28 41 (by kernel_rfl) (by kernel_rfl) rfl) (by kernel_rfl)) hK) ?_
      refine gr_onV (j := 21) (d := 34) (want := true) (u := .bool true) rfl (by kernel_rfl) (by kernel_rfl) (fun a V H => (H.rel 21 34 (by kernel_rfl) (by kernel_rfl) rfl)) (by kernel_rfl) (fun a V H K Q hK => op_quiet (quiet_pickF (.tmp 38) (.const (.bool true)) (.tmp 42) (H.rel 25 38 (by kernel_rfl) (by kernel_rfl) rfl) (H.rel 29 42 (by kernel_rfl) (by kernel_rfl) rfl) (by kernel_rfl)) hK) ?_
      refine gr_val rfl (by kernel_rfl) (fun a V H K Q hK => op_quiet (quiet_pickT (.tmp 34) (.tmp 43) (.const (.bool false)) (H.rel 21 34 (by kernel_rfl) (by kernel_rfl) rfl) (H.rel 30 43 (by kernel_rfl) (by kernel_rfl) rfl) (by kernel_rfl)) hK) ?_
      refine gr_val rfl (by kernel_rfl) (fun a V H K Q hK => op_quiet (quiet_move (.tmp 44) (H.rel 31 44 (by kernel_rfl) (by kernel_rfl) rfl) (.inl rfl)) hK) ?_
      refine gr_onV (j := 32) (d := 45) (want := true) (u := .bool true) rfl (by kernel_rfl) (by kernel_rfl) (fun a V H => (H.rel 32 45 (by kernel_rfl) (by kernel_rfl) rfl)) (by kernel_rfl) (fun a V H K Q hK => op_callK _ #[] (by kernel_rfl) (by kernel_rfl) (by kernel_rfl) (map0 ) (KA.out _ (next_below hB H.frame)) (by kernel_rfl) hK) ?_
      refine gr_val rfl (by kernel_rfl) (fun a V H K Q hK => op_quiet (quiet_pickT (.tmp 45) (.tmp 46) (.const (.bool false)) (H.rel 32 45 (by kernel_rfl) (by kernel_rfl) rfl) (H.rel 33 46 (by kernel_rfl) (by kernel_rfl) rfl) (by kernel_rfl)) hK) ?_
      refine gr_val rfl (by kernel_rfl) (fun a V H K Q hK => op_quiet (quiet_move (.tmp 47) (H.rel 34 47 (by kernel_rfl) (by kernel_rfl) rfl) (.inr rfl)) hK) ?_
      exact gr_nil
    case hf1 =>
    intro x V hF
    have e0 : x 0 = .agg #[.int .u8 oa, .bool ia1, .bool pa1, .slice A1 n1 c1, .bool ia2, .bool pa2, .slice A2 n2 c2] := hF.rel 0 _ rfl
    have e1 : x 1 = .bool true := hF.rel 1 _ rfl
    have e2 : x 2 = .agg #[.int .u8 oa, .bool ia1, .bool pa1, .slice A1 n1 c1, .bool ia2, .bool pa2, .slice A2 n2 c2] := hF.rel 2 _ rfl
    have e3 : x 3 = .bool true := hF.rel 3 _ rfl
    have e4 : x 4 = .bool true := hF.rel 4 _ rfl
    have e5 : x 5 = .bool true := hF.rel 5 _ rfl
    have e6 : x 6 = .agg #[.int .u8 oa, .bool ia1, .bool pa1, .slice A1 n1 c1, .bool ia2, .bool pa2, .slice A2 n2 c2] := hF.rel 6 _ rfl
    have e7 : x 7 = .slice A3 n3 c3 := hF.rel 7 _ rfl
    have e8 : x 8 = .bool false := hF.rel 8 _ rfl
    have e9 : x 9 = .agg #[.int .u8 oa, .bool ia1, .bool pa1, .slice A1 n1 c1, .bool ia2, .bool pa2, .slice A2 n2 c2] := hF.rel 9 _ rfl
    have e10 : x 10 = .slice A3 n3 c3 := hF.rel 10 _ rfl
    have e11 : x 11 = .bool false := hF.rel 11 _ rfl
    have e12 : x 12 = .bool true := hF.rel 12 _ rfl
    have e13 : x 13 = .bool true := hF.rel 13 _ rfl
    have e14 : x 14 = .bool true := hF.rel 14 _ rfl
    have e15 : x 15 = .agg #[.int .u8 oa, .bool ia1, .bool pa1, .slice A1 n1 c1, .bool ia2, .bool pa2, .slice A2 n2 c2] := hF.rel 15 _ rfl
    have e16 : x 16 = .bool true := hF.rel 16 _ rfl
    have e17 : x 17 = .agg #[.int .u8 oa, .bool ia1, .bool pa1, .slice A1 n1 c1, .bool ia2, .bool pa2, .slice A2 n2 c2] := hF.rel 17 _ rfl
    have e18 : x 18 = .bool true := hF.rel 18 _ rfl
    have e19 : x 19 = .bool true := hF.rel 19 _ rfl
    have e20 : x 20 = .bool true := hF.rel 20 _ rfl
    have e21 : x 21 = .bool true := hF.rel 21 _ rfl
    have e22 : x 22 = .agg #[.int .u8 oa, .bool ia1, .bool pa1, .slice A1 n1 c1, .bool ia2, .bool pa2, .slice A2 n2 c2] := hF.rel 22 _ rfl
    have e23 : x 23 = .bool true := hF.rel 23 _ rfl
    have e24 : x 24 = .bool false := hF.rel 24 _ rfl
    have e25 : x 25 = .bool false := hF.rel 25 _ rfl
    have e26 : x 26 = .agg #[.int .u8 oa, .bool ia1, .bool pa1, .slice A1 n1 c1, .bool ia2, .bool pa2, .slice A2 n2 c2] := hF.rel 26 _ rfl
    have e27 : x 27 = .slice A3 n3 c3 := hF.rel 27 _ rfl
    have e28 : x 28 = .bool false := hF.rel 28 _ rfl
    have e29 : x 29 = .bool true := hF.rel 29 _ rfl
    have e30 : x 30 = .bool true := hF.rel 30 _ rfl
    have e31 : x 31 = .bool true := hF.rel 31 _ rfl
    have e32 : x 32 = .bool true := hF.rel 32 _ rfl
    have e33 : x 33 = .bool true := hF.rel 33 _ rfl
    have e34 : x 34 = .bool true := hF.rel 34 _ rfl
    have e35 : x 35 = .bool true := hF.rel 35 _ rfl
    have hbf := hF.frame
    clear hF
    simp only [Sch.finL, List.setIfInBounds_toArray, List.set_cons_zero, List.set_cons_succ, e0, e1, e2, e3, e4, e5, e6, e7, e8, e9, e10, e11, e12, e13, e14, e15, e16, e17, e18, e19, e20, e21, e22, e23, e24, e25, e26, e27, e28, e29, e30, e31, e32, e33, e34, e35]
    clear e0 e1 e2 e3 e4 e5 e6 e7 e8 e9 e10 e11 e12 e13 e14 e15 e16 e17 e18 e19 e20 e21 e22 e23 e24 e25 e26 e27 e28 e29 e30 e31 e32 e33 e34 e35
    refine tail_nil ?_
    go_wp2_with fail
    go_ret
    exact ⟨rfl, next_below HB0.out (next_below hB hbf)⟩
  · refine wp_R [13, 14, 15, 16, 17, 18, 19, 20, 21, 22, 23, 24, 25, 26, 27, 28, 29, 30, 31, 32, 33, 34, 35, 36, 37, 38, 39, 40, 41, 42, 43, 44, 45, 46, 47, 4] [Rk.val (.agg #[.int .u8 oa, .bool ia1, .bool pa1, .slice A1 n1 c1, .bool ia2, .bool pa2, .slice A2 n2 c2]), Rk.val (.bool true), Rk.val (.agg #[.int .u8 oa, .bool ia1, .bool pa1, .slice A1 n1 c1, .bool ia2, .bool pa2, .slice A2 n2 c2]), Rk.val (.bool true), Rk.val (.bool true), Rk.val (.bool true), Rk.val (.agg #[.int .u8 oa, .bool ia1, .bool pa1, .slice A1 n1 c1, .bool ia2, .bool pa2, .slice A2 n2 c2]), Rk.val (.slice A3 n3 c3), Rk.val (.bool true), Rk.val (.agg #[.int .u8 oa, .bool ia1, .bool pa1, .slice A1 n1 c1, .bool ia2, .bool pa2, .slice A2 n2 c2]), Rk.val (.slice A3 n3 c3), Rk.val (.bool true), Rk.val (.bool true), Rk.val (.bool true), Rk.val (.bool true), Rk.val (.agg #[.int .u8 oa, .bool ia1, .bool pa1, .slice A1 n1 c1, .bool ia2, .bool pa2, .slice A2 n2 c2]), Rk.val (.bool false), Rk.val (.agg #[.int .u8 oa, .bool ia1, .bool pa1, .slice A1 n1 c1, .bool ia2, .bool pa2, .slice A2 n2 c2]), Rk.val (.bool false), Rk.val (.bool true), Rk.val (.bool true), Rk.val (.bool true), Rk.val (.agg #[.int .u8 oa, .bool ia1, .bool pa1, .slice A1 n1 c1, .bool ia2, .bool pa2, .slice A2 n2 c2]), Rk.val (.bool false), Rk.val (.bool true), Rk.val (.bool true), Rk.val undef, Rk.val undef, Rk.val undef, Rk.val undef, Rk.val (.bool true), Rk.val (.bool true), Rk.val (.bool true), Rk.val (.bool true), Rk.val (.bool true), Rk.val (.bool true)] rfl (by kernel_rfl) (by kernel_rfl) (by kernel_rfl) (by kernel_rfl) ?hg1 _ (by rfl) ?hf1
    case hg1 =>
      refine gr_val rfl (by kernel_rfl) (fun a V H K Q hK => op_quiet (quiet_agg _ (.tmp 2) _ 0 (H.old 2 (by kernel_rfl) (by kernel_rfl)) #[.int .u8 oa, .bool ia1, .bool pa1, .slice A1 n1 c1, .bool ia2, .bool pa2, .slice A2 n2 c2] (fun j v hj => X0.out _ (next_below hB H.frame) _ v (part_at 0 ⟨_, rfl⟩ j v hj)) Tryd.underlying31 rfl (by kernel_rfl) (by kernel_rfl)) hK) ?_
      refine gr_val rfl (by kernel_rfl) (fun a V H K Q hK => op_callK _ #[.agg #[.int .u8 oa, .bool ia1, .bool pa1, .slice A1 n1 c1, .bool ia2, .bool pa2, .slice A2 n2 c2]] (by kernel_rfl) (by kernel_rfl) (by kernel_rfl) (map1 (H.rel 0 13 (by kernel_rfl) (by kernel_rfl) rfl)) (K1.out _ (next_below hB H.frame)) (by kernel_rfl) hK) ?_
      refine gr_val rfl (by kernel_rfl) (fun a V H K Q hK => op_quiet (quiet_agg _ (.tmp 2) _ 0 (H.old 2 (by kernel_rfl) (by kernel_rfl)) #[.int .u8 oa, .bool ia1, .bool pa1, .slice A1 n1 c1, .bool ia2, .bool pa2, .slice A2 n2 c2] (fun j v hj => X0.out _ (next_below hB H.frame) _ v (part_at 0 ⟨_, rfl⟩ j v hj)) Tryd.underlying31 rfl (by kernel_rfl) (by kernel_rfl)) hK) ?_
      refine gr_val rfl (by kernel_rfl) (fun a V H K Q hK => op_callK _ #[.agg #[.int .u8 oa, .bool ia1, .bool pa1, .slice A1 n1 c1, .bool ia2, .bool pa2, .slice A2 n2 c2]] (by kernel_rfl) (by kernel_rfl) (by kernel_rfl) (map1 (H.rel 2 15 (by kernel_rfl) (by kernel_rfl) rfl)) (K2.out _ (next_below hB H.frame)) (by kernel_rfl) hK) ?_
      refine gr_val rfl (by kernel_rfl) (fun a V H K Q hK => op_quiet (quiet_eqlB (.tmp 14) (.tmp 16) true true true 4 4 Tryd.underlying4 rfl (H.rel 1 14 (by kernel_rfl) (by kernel_rfl) rfl) (H.rel 3 16 (by kernel_rfl) (by kernel_rfl) rfl) (by kernel_rfl)) hK) ?_
      refine gr_val rfl (by kernel_rfl) (fun a V H K Q hK => op_quiet (quiet_move (.tmp 17) (H.rel 4 17 (by kernel_rfl) (by kernel_rfl) rfl) (.inl rfl)) hK) ?_
      refine gr_onV (j := 5) (d := 18) (want := true) (u := .bool true) rfl (by kernel_rfl) (by kernel_rfl) (fun a V H => (H.rel 5 18 (by kernel_rfl) (by kernel_rfl) rfl)) (by kernel_rfl) (fun a V H K Q hK => op_quiet (quiet_agg _ (.tmp 2) _ 0 (H.old 2 (by kernel_rfl) (by kernel_rfl)) #[.int .u8 oa, .bool ia1, .bool pa1, .slice A1 n1 c1, .bool ia2, .bool pa2, .slice A2 n2 c2] (fun j v hj => X0.out _ (next_below hB H.frame) _ v (part_at 0 ⟨_, rfl⟩ j v hj)) Tryd.underlying31 rfl (by kernel_rfl) (by kernel_rfl)) hK) ?_
      refine gr_onV (j := 5) (d := 18) (want := true) (u := .bool true) rfl (by kernel_rfl) (by kernel_rfl) (fun a V H => (H.rel 5 18 (by kernel_rfl) (by kernel_rfl) rfl)) (by kernel_rfl) (fun a V H K Q hK => op_quiet (quiet_move (.tmp 1) (H.old 1 (by kernel_rfl) (by kernel_rfl)) (.inl rfl)) hK) ?_
      refine gr_onV (j := 5) (d := 18) (want := true) (u := .bool true) rfl (by kernel_rfl) (by kernel_rfl) (fun a V H => (H.rel 5 18 (by kernel_rfl) (by kernel_rfl) rfl)) (by kernel_rfl) (fun a V H K Q hK => op_callK _ #[.agg #[.int .u8 oa, .bool ia1, .bool pa1, .slice A1 n1 c1, .bool ia2, .bool pa2, .slice A2 n2 c2], .slice A3 n3 c3] (by kernel_rfl) (by kernel_rfl) (by kernel_rfl) (map2 (H.rel 6 19 (by kernel_rfl) (by kernel_rfl) rfl) (H.rel 7 20 (by kernel_rfl) (by kernel_rfl) rfl)) (K3.out _ (next_below hB H.frame)) (by kernel_rfl) hK) ?_
      refine gr_onV (j := 5) (d := 18) (want := true) (u := .bool true) rfl (by kernel_rfl) (by kernel_rfl) (fun a V H => (H.rel 5 18 (by kernel_rfl) (by kernel_rfl) rfl)) (by kernel_rfl) (fun a V H K Q hK => op_quiet (quiet_agg _ (.tmp 2) _ 0 (H.old 2 (by kernel_rfl) (by kernel_rfl)) #[.int .u8 oa, .bool ia1, .bool pa1, .slice A1 n1 c1, .bool ia2, .bool pa2, .slice A2 n2 c2] (fun j v hj => X0.out _ (next_below hB H.frame) _ v (part_at 0 ⟨_, rfl⟩ j v hj)) Tryd.underlying31 rfl (by kernel_rfl) (by kernel_rfl)) hK) ?_
      refine gr_onV (j := 5) (d := 18) (want := true) (u := .bool true) rfl (by kernel_rfl) (by kernel_rfl) (fun a V H => (H.rel 5 18 (by kernel_rfl) (by kernel_rfl) rfl)) (by kernel_rfl) (fun a V H K Q hK => op_quiet (quiet_move (.tmp 1) (H.old 1 (by kernel_rfl) (by kernel_rfl)) (.inl rfl)) hK) ?_
      refine gr_onV (j := 5) (d := 18) (want := true) (u := .bool true) rfl (by kernel_rfl) (by kernel_rfl) (fun a V H => (H.rel 5 18 (by kernel_rfl) (by kernel_rfl) rfl)) (by kernel_rfl) (fun a V H K Q hK => op_callK _ #[.agg #[.int .u8 oa, .bool ia1, .bool pa1, .slice A1 n1 c1, .bool ia2, .bool pa2, .slice A2 n2 c2], .slice A3 n3 c3] (by kernel_rfl) (by kernel_rfl) (by kernel_rfl) (map2 (H.rel 9 22 (by kernel_rfl) (by kernel_rfl) rfl) (H.rel 10 23 (by kernel_rfl) (by kernel_rfl) rfl)) (K4.out _ (next_below hB H.frame)) (by kernel_rfl) hK) ?_
      refine gr_onV (j := 5) (d := 18) (want := true) (u := .bool true) rfl (by kernel_rfl) (by kernel_rfl) (fun a V H => (H.rel 5 18 (by kernel_rfl) (by kernel_rfl) rfl)) (by kernel_rfl) (fun a V H K Q hK => op_quiet (quiet_eqlB (.tmp 21) (.tmp 24) true true true 4 4 Tryd.underlying4 rfl (H.rel 8 21 (by kernel_rfl) (by kernel_rfl) rfl) (H.rel 11 24 (by kernel_rfl) (by kernel_rfl) rfl) (by kernel_rfl)) hK) ?_
      refine gr_val rfl (by kernel_rfl) (fun a V H K Q hK => op_quiet (quiet_pickT (.tmp 18) (.tmp 25) (.const (.bool false)) (H.rel 5 18 (by kernel_rfl) (by kernel_rfl) rfl) (H.rel 12 25 (by kernel_rfl) (by kernel_rfl) rfl) (by kernel_rfl)) hK) ?_
      refine gr_val rfl (by kernel_rfl) (fun a V H K Q hK => op_quiet (quiet_move (.tmp 26) (H.rel 13 26 (by kernel_rfl) (by kernel_rfl) rfl) (.inl rfl)) hK) ?_
      refine gr_onV (j := 14) (d := 27) (want := true) (u := .bool true) rfl (by kernel_rfl) (by kernel_rfl) (fun a V H => (H.rel 14 27 (by kernel_rfl) (by kernel_rfl) rfl)) (by kernel_rfl) (fun a V H K Q hK => op_quiet (quiet_agg _ (.tmp 2) _ 0 (H.old 2 (by kernel_rfl) (by kernel_rfl)) #[.int .u8 oa, .bool ia1, .bool pa1, .slice A1 n1 c1, .bool ia2, .bool pa2, .slice A2 n2 c2] (fun j v hj => X0.out _ (next_below hB H.frame) _ v (part_at 0 ⟨_, rfl⟩ j v hj)) Tryd.underlying31 rfl (by kernel_rfl) (by kernel_rfl)) hK) ?_
      refine gr_onV (j := 14) (d := 27) (want := true) (u := .bool true) rfl (by kernel_rfl) (by kernel_rfl) (fun a V H => (H.rel 14 27 (by kernel_rfl) (by kernel_rfl) rfl)) (by kernel_rfl) (fun a V H K Q hK => op_callK _ #[.agg #[.int .u8 oa, .bool ia1, .bool pa1, .slice A1 n1 c1, .bool ia2, .bool pa2, .slice A2 n2 c2]] (by kernel_rfl) (by kernel_rfl) (by kernel_rfl) (map1 (H.rel 15 28 (by kernel_rfl) (by kernel_rfl) rfl)) (K5.out _ (next_below hB H.frame)) (by kernel_rfl) hK) ?_
      refine gr_onV (j := 14) (d := 27) (want := true) (u := .bool true) rfl (by kernel_rfl) (by kernel_rfl) (fun a V H => (H.rel 14 27 (by kernel_rfl) (by kernel_rfl) rfl)) (by kernel_rfl) (fun a V H K Q hK => op_quiet (quiet_agg _ (.tmp 2) _ 0 (H.old 2 (by kernel_rfl) (by kernel_rfl)) #[.int .u8 oa, .bool ia1, .bool pa1, .slice A1 n1 c1, .bool ia2, .bool pa2, .slice A2 n2 c2] (fun j v hj => X0.out _ (next_below hB H.frame) _ v (part_at 0 ⟨_, rfl⟩ j v hj)) Tryd.underlying31 rfl (by kernel_rfl) (by kernel_rfl)) hK) ?_
      refine gr_onV (j := 14) (d := 27) (want := true) (u := .bool true) rfl (by kernel_rfl) (by kernel_rfl) (fun a V H => (H.rel 14 27 (by kernel_rfl) (by kernel_rfl) rfl)) (by kernel_rfl) (fun a V H K Q hK => op_callK _ #[.agg #[.int .u8 oa, .bool ia1, .bool pa1, .slice A1 n1 c1, .bool ia2, .bool pa2, .slice A2 n2 c2]] (by kernel_rfl) (by kernel_rfl) (by kernel_rfl) (map1 (H.rel 17 30 (by kernel_rfl) (by kernel_rfl) rfl)) (K6.out _ (next_below hB H.frame)) (by kernel_rfl) hK) ?_
      refine gr_onV (j := 14) (d := 27) (want := true) (u := .bool true) rfl (by kernel_rfl) (by kernel_rfl) (fun a V H => (H.rel 14 27 (by kernel_rfl) (by kernel_rfl) rfl)) (by kernel_rfl) (fun a V H K Q hK => op_quiet (quiet_eqlB (.tmp 29) (.tmp 31) false false true 4 4 Tryd.underlying4 rfl (H.rel 16 29 (by kernel_rfl) (by kernel_rfl) rfl) (H.rel 18 31 (by kernel_rfl) (by kernel_rfl) rfl) (by kernel_rfl)) hK) ?_
      refine gr_val rfl (by kernel_rfl) (fun a V H K Q hK => op_quiet (quiet_pickT (.tmp 27) (.tmp 32) (.const (.bool false)) (H.rel 14 27 (by kernel_rfl) (by kernel_rfl) rfl) (H.rel 19 32 (by kernel_rfl) (by kernel_rfl) rfl) (by kernel_rfl)) hK) ?_
      refine gr_val rfl (by kernel_rfl) (fun a V H K Q hK => op_quiet (quiet_move (.tmp 33) (H.rel 20 33 (by kernel_rfl) (by kernel_rfl) rfl) (.inl rfl)) hK) ?_
      refine gr_onV (j := 21) (d := 34) (want := true) (u := .bool true) rfl (by kernel_rfl) (by kernel_rfl) (fun a V H => (H.rel 21 34 (by kernel_rfl) (by kernel_rfl) rfl)) (by kernel_rfl) (fun a V H K Q hK => op_quiet (quiet_agg _ (.tmp 2) _ 0 (H.old 2 (by kernel_rfl) (by kernel_rfl)) #[.int .u8 oa, .bool ia1, .bool pa1, .slice A1 n1 c1, .bool ia2, .bool pa2, .slice A2 n2 c2] (fun j v hj => X0.out _ (next_below hB H.frame) _ v (part_at 0 ⟨_, rfl⟩ j v hj)) Tryd.underlying31 rfl (by kernel_rfl) (by kernel_rfl)) hK) ?_
      refine gr_onV (j := 21) (d := 34) (want := true) (u := .bool true) rfl (by kernel_rfl) (by kernel_rfl) (fun a V H => (H.rel 21 34 (by kernel_rfl) (by kernel_rfl) rfl)) (by kernel_rfl) (fun a V H K Q hK => op_callK _ #[.agg #[.int .u8 oa, .bool ia1, .bool pa1, .slice A1 n1 c1, .bool ia2, .bool pa2, .slice A2 n2 c2]] (by kernel_rfl) (by kernel_rfl) (by kernel_rfl) (map1 (H.rel 22 35 (by kernel_rfl) (by kernel_rfl) rfl)) (K5.out _ (next_below hB H.frame)) (by kernel_rfl) hK) ?_
      refine gr_onV (j := 21) (d := 34) (want := true) (u := .bool true) rfl (by kernel_rfl) (by kernel_rfl) (fun a V H => (H.rel 21 34 (by kernel_rfl) (by kernel_rfl) rfl)) (by kernel_rfl) (fun a V H K Q hK => op_quiet (quiet_not 4 (.tmp 36) (H.rel 23 36 (by kernel_rfl) (by kernel_rfl) rfl) (by kernel_rfl)) hK) ?_
      refine gr_onV (j := 21) (d := 34) (want := true) (u := .bool true) rfl (by kernel_rfl) (by kernel_rfl) (fun a V H => (H.rel 21 34 (by kernel_rfl) (by kernel_rfl) rfl)) (by kernel_rfl) (fun a V H K Q hK => op_quiet (quiet_move (.tmp 37) (H.rel 24 37 (by kernel_rfl) (by kernel_rfl) rfl) (.inl rfl)) hK) ?_
      refine gr_offV (j := 25) (d := 38) (want := false) (u := .bool true) rfl (by kernel_rfl) (by kernel_rfl) (fun a V H => (H.rel 25 38 (by kernel_rfl) (by kernel_rfl) rfl)) (by kernel_rfl) ?_
      refine gr_offV (j := 25) (d := 38) (want := false) (u := .bool true) rfl (by kernel_rfl) (by kernel_rfl) (fun a V H => (H.rel 25 38 (by kernel_rfl) (by kernel_rfl) rfl)) (by kernel_rfl) ?_
      refine gr_offV (j := 25) (d := 38) (want := false) (u := .bool true) rfl (by kernel_rfl) (by kernel_rfl) (fun a V H => (H.rel 25 38 (by kernel_rfl) (by kernel_rfl) rfl)) (by kernel_rfl) ?_
      refine gr_offV (j := 25) (d := 38) (want := false) (u := .bool true) rfl (by kernel_rfl) (by kernel_rfl) (fun a V H => (H.rel 25 38 (by kernel_rfl) (by kernel_rfl) rfl)) (by kernel_rfl) ?_
      refine gr_onV (j := 21) (d := 34) (want := true) (u := .bool true) rfl (by kernel_rfl) (by kernel_rfl) (fun a V H => (H.rel 21 34 (by kernel_rfl) (by kernel_rfl) rfl)) (by kernel_rfl) (fun a V H K Q hK => op_quiet (quiet_pickT (.tmp 38) (.const (.bool true)) (.tmp 42) (H.rel 25 38 (by kernel_rfl) (by kernel_rfl) rfl) (show a.eval (.const (.bool true)) = .bool true from rfl) (by kernel_rfl)) hK) ?_
      refine gr_val rfl (by kernel_rfl) (fun a V H K Q hK => op_quiet (quiet_pickT (.tmp 34) (.tmp 43) (.const (.bool false)) (H.rel 21 34 (by kernel_rfl) (by kernel_rfl) rfl) (H.rel 30 43 (by kernel_rfl) (by kernel_rfl) rfl) (by kernel_rfl)) hK) ?_
      refine gr_val rfl (by kernel_rfl) (fun a V H K Q hK => op_quiet (quiet_move (.tmp 44) (H.rel 31 44 (by kernel_rfl) (by kernel_rfl) rfl) (.inl rfl)) hK) ?_
      refine gr_onV (j := 32) (d := 45) (want := true) (u := .bool true) rfl (by kernel_rfl) (by kernel_rfl) (fun a V H => (H.rel 32 45 (by kernel_rfl) (by kernel_rfl) rfl)) (by kernel_rfl) (fun a V H K Q hK => op_callK _ #[] (by kernel_rfl) (by kernel_rfl) (by kernel_rfl) (map0 ) (KA.out _ (next_below hB H.frame)) (by kernel_rfl) hK) ?_
      refine gr_val rfl (by kernel_rfl) (fun a V H K Q hK => op_quiet (quiet_pickT (.tmp 45) (.tmp 46) (.const (.bool false)) (H.rel 32 45 (by kernel_rfl) (by kernel_rfl) rfl) (H.rel 33 46 (by kernel_rfl) (by kernel_rfl) rfl) (by kernel_rfl)) hK) ?_
      refine gr_val rfl (by kernel_rfl) (fun a V H K Q hK => op_quiet (quiet_move (.tmp 47) (H.rel 34 47 (by kernel_rfl) (by kernel_rfl) rfl) (.inr rfl)) hK) ?_
      exact gr_nil
    case hf1 =>
    intro x V hF
    have e0 : x 0 = .agg #[.int .u8 oa, .bool ia1, .bool pa1, .slice A1 n1 c1, .bool ia2, .bool pa2, .slice A2 n2 c2] := hF.rel 0 _ rfl
    have e1 : x 1 = .bool true := hF.rel 1 _ rfl
    have e2 : x 2 = .agg #[.int .u8 oa, .bool ia1, .bool pa1, .slice A1 n1 c1, .bool ia2, .bool pa2, .slice A2 n2 c2] := hF.rel 2 _ rfl
    have e3 : x 3 = .bool true := hF.rel 3 _ rfl
    have e4 : x 4 = .bool true := hF.rel 4 _ rfl
    have e5 : x 5 = .bool true := hF.rel 5 _ rfl
    have e6 : x 6 = .agg #[.int .u8 oa, .bool ia1, .bool pa1, .slice A1 n1 c1, .bool ia2, .bool pa2, .slice A2 n2 c2] := hF.rel 6 _ rfl
    have e7 : x 7 = .slice A3 n3 c3 := hF.rel 7 _ rfl
    have e8 : x 8 = .bool true := hF.rel 8 _ rfl
    have e9 : x 9 = .agg #[.int .u8 oa, .bool ia1, .bool pa1, .slice A1 n1 c1, .bool ia2, .bool pa2, .slice A2 n2 c2] := hF.rel 9 _ rfl
    have e10 : x 10 = .slice A3 n3 c3 := hF.rel 10 _ rfl
    have e11 : x 11 = .bool true := hF.rel 11 _ rfl
    have e12 : x 12 = .bool true := hF.rel 12 _ rfl
    have e13 : x 13 = .bool true := hF.rel 13 _ rfl
    have e14 : x 14 = .bool true := hF.rel 14 _ rfl
    have e15 : x 15 = .agg #[.int .u8 oa, .bool ia1, .bool pa1, .slice A1 n1 c1, .bool ia2, .bool pa2, .slice A2 n2 c2] := hF.rel 15 _ rfl
    have e16 : x 16 = .bool false := hF.rel 16 _ rfl
    have e17 : x 17 = .agg #[.int .u8 oa, .bool ia1, .bool pa1, .slice A1 n1 c1, .bool ia2, .bool pa2, .slice A2 n2 c2] := hF.rel 17 _ rfl
    have e18 : x 18 = .bool false := hF.rel 18 _ rfl
    have e19 : x 19 = .bool true := hF.rel 19 _ rfl
    have e20 : x 20 = .bool true := hF.rel 20 _ rfl
    have e21 : x 21 = .bool true := hF.rel 21 _ rfl
    have e22 : x 22 = .agg #[.int .u8 oa, .bool ia1, .bool pa1, .slice A1 n1 c1, .bool ia2, .bool pa2, .slice A2 n2 c2] := hF.rel 22 _ rfl
    have e23 : x 23 = .bool false := hF.rel 23 _ rfl
    have e24 : x 24 = .bool true := hF.rel 24 _ rfl
    have e25 : x 25 = .bool true := hF.rel 25 _ rfl
    have e26 : x 26 = undef := hF.rel 26 _ rfl
    have e27 : x 27 = undef := hF.rel 27 _ rfl
    have e28 : x 28 = undef := hF.rel 28 _ rfl
    have e29 : x 29 = undef := hF.rel 29 _ rfl
    have e30 : x 30 = .bool true := hF.rel 30 _ rfl
    have e31 : x 31 = .bool true := hF.rel 31 _ rfl
    have e32 : x 32 = .bool true := hF.rel 32 _ rfl
    have e33 : x 33 = .bool true := hF.rel 33 _ rfl
    have e34 : x 34 = .bool true := hF.rel 34 _ rfl
    have e35 : x 35 = .bool true := hF.rel 35 _ rfl
    have hbf := hF.frame
    clear hF
    simp only [Sch.finL, List.setIfInBounds_toArray, List.set_cons_zero, List.set_cons_succ, e0, e1, e2, e3, e4, e5, e6, e7, e8, e9, e10, e11, e12, e13, e14, e15, e16, e17, e18, e19, e20, e21, e22, e23, e24, e25, e26, e27, e28, e29, e30, e31, e32, e33, e34, e35]
    clear e0 e1 e2 e3 e4 e5 e6 e7 e8 e9 e10 e11 e12 e13 e14 e15 e16 e17 e18 e19 e20 e21 e22 e23 e24 e25 e26 e27 e28 e29 e30 e31 e32 e33 e34 e35
    refine tail_nil ?_
    go_wp2_with fail
    go_ret
    exact ⟨rfl, next_below HB0.out (next_below hB hbf)⟩
  · cases hne rfl
end Go.Proofs.YtjdmhbfddklhnaaDoor
