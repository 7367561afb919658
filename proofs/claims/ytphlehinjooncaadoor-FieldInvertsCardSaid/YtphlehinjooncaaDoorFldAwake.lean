/-
  The contract of the laws' awake. Condition: the prime's limbs stand in their variable.
-/
import Derived.Test.YtphlehinjooncaaDoorFldBytes
set_option linter.unusedVariables false
set_option linter.unusedSimpArgs false
namespace Go.Proofs.YtphlehinjooncaaDoor
open Go Go.Proofs Go.RowKit F5

theorem fbytes_cell (n i b : Nat) (hi : i < 32) (hb : n / 256 ^ i % 256 = b) : (bytesA (fbytes n))[i]? = some (.int .u8 (b : Int)) := by
  rw [bytesA_get _ _ (by rw [fbytes_length]; exact hi), fbytes_get _ _ hi, hb]

set_option maxHeartbeats 2000000 in
set_option maxRecDepth 100000 in
theorem awake_any (w : World) (hP : PrimeAt w) : Calls Tryd.prog 8 #[] w fun e w' => e = .returned (.bool true) ∧ Below w.heap.size w w' := by
  have hal2 : Tryd.prog.arrayLen 41 = 32 := by kernel_rfl
  have hel2 : Tryd.prog.elem 41 = 5 := by kernel_rfl
  have HP := Lib.hid hP
  clear hP
  obtain ⟨z, hz⟩ : ∃ z, Hid (z = bytesA (List.replicate 32 0)) := ⟨_, Lib.hid rfl⟩
  have hz0 : ∀ W, (zeroValue 41).run Tryd.prog W = .ok (.agg z) W := by
    rw [hz.out]; exact (zero_of_info (n := 32) (by kernel_rfl)).1
  go_enter Tryd.func8, Tryd.ntmps8
  go_wp2_with fail
  refine (of_any 2 (by decide) _).mono ?_
  rintro e w1 ⟨rfl, hb1⟩
  have H1 := Lib.hid hb1
  clear hb1
  go_wp2_with fail
  refine (of_any 3 (by decide) _).mono ?_
  rintro e w2 ⟨rfl, hb2⟩
  have H2 := Lib.hid (H1.out.trans (hb2.mono H1.out.size))
  clear hb2
  go_wp2_with fail
  refine (sub_e 2 3 (by decide) (by decide) _ (HP.out.old H2.out)).mono ?_
  rintro e w3 ⟨rfl, hb3⟩
  have H3 := Lib.hid (H2.out.trans (hb3.mono H2.out.size))
  clear hb3
  go_wp2_with fail
  refine (bytes_e _ _).mono ?_
  rintro e w4 ⟨rfl, hb4⟩
  have H4 := Lib.hid (H3.out.trans (hb4.mono H3.out.size))
  clear hb4
  have c0 := fbytes_cell ((2 + P - 3) % P) 0 236 (by decide) (by decide +kernel)
  have c1 := fbytes_cell ((2 + P - 3) % P) 1 255 (by decide) (by decide +kernel)
  have c31 := fbytes_cell ((2 + P - 3) % P) 31 127 (by decide) (by decide +kernel)
  have hRi := fbytes_info ((2 + P - 3) % P)
  have hR1 := bytesA_one (fbytes ((2 + P - 3) % P))
  have hzz : (bytesA (List.replicate 32 0)).size = (bytesA (fbytes ((2 + P - 3) % P))).size := by rw [bytesA_size, bytesA_size, fbytes_length]; rfl
  generalize bytesA (fbytes ((2 + P - 3) % P)) = R at *
  rw [← hz.out] at hzz
  have HRi := Lib.hid hRi
  have HR1 := Lib.hid hR1
  have HZ := Lib.hid hzz
  have hN := Blk.new w4 41 R
  have d0 := (hN.cell 0).trans c0
  have d1 := (hN.cell 1).trans c1
  have d31 := (hN.cell 31).trans c31
  have hbl : Hid (Below w.heap.size w (w4.alloc (.cells R 41))) := Lib.hid (H4.out.alloc H4.out.size _)
  clear c0 c1 c31 hRi hR1 hzz hN
  go_wp2_with (first | (refine wpList_store_row rfl 41 (.tmp 1) (.tmp 5) rfl w4.heap.size R rfl rfl 41 _ (heap_alloc_new w4 _) HRi.out HZ.out HR1.out ?_; rw [setRow_alloc1]))
  go_ret
  exact ⟨rfl, hbl.out⟩
end Go.Proofs.YtphlehinjooncaaDoor
