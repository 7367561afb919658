/-
  The contract of the law file's own awake: it returns true. No conditions.
-/
import Derived.Test.YtblielcmjdnlfaaShaOf
set_option linter.unusedVariables false
namespace Go.Proofs.Ytblielcmjdnlfaa
open Go Go.Proofs Go.RowKit Sha5

theorem abc_bytes : ∃ r : List UInt8, sumOf [97, 98, 99] = [0xdd, 0xaf, 0x35, 0xa1] ++ r := by
  refine ⟨(sumOf [97, 98, 99]).drop 4, ?_⟩
  have h := abc_ok
  rw [← h]
  exact (List.take_append_drop 4 _).symm

theorem reads_abc (w : World) : Reads (w.alloc (.cells #[.int .u8 97, .int .u8 98, .int .u8 99] 5 (3, 4))) (w.heap.size + 1) 1 (some ⟨w.heap.size, 0, none⟩) 3 (Lib.byteCells [97, 98, 99]) := by
  refine ⟨rfl, fun _ => ⟨_, rfl, by simp, fun j u hj => ?_⟩⟩
  rw [show (⟨w.heap.size, 0, none⟩ : Addr).add j = ⟨w.heap.size, j, none⟩ from by unfold Addr.add; split <;> simp_all]
  rw [cell_of_row _ _ j _ _ _ (heap_alloc_new w _)]
  rw [show (#[.int .u8 97, .int .u8 98, .int .u8 99] : Array Value) = (Lib.byteCells [97, 98, 99]).toArray from rfl, List.getElem?_toArray]
  exact hj

set_option maxHeartbeats 4000000 in
set_option maxRecDepth 100000 in
theorem awake4_any (w : World) : Calls Try.prog 8 #[] w fun e w' => e = .returned (.bool true) ∧ Below w.heap.size w w' := by
  obtain ⟨z, hz⟩ : ∃ z, Hid (z = (Array.replicate 64 (Value.int .u8 0))) := ⟨_, Lib.hid rfl⟩
  have hz0 : ∀ W, (zeroValue 25).run Try.prog W = .ok (.agg z) W := by
    rw [hz.out]; exact (zero_of_info (n := 64) (by kernel_rfl)).1
  have hzs : Hid (z.size = 64) := by show _ = _; rw [hz.out]; simp
  obtain ⟨R, hR⟩ : ∃ R, Hid (R = bytesA (sumOf [97, 98, 99])) := ⟨_, Lib.hid rfl⟩
  have hbs : Hid ((Try.prog.info? 25).map (·.size) = some R.size) := by
    show _ = _; rw [hR.out, bytesA_size, sumOf_length]; exact info25
  have hb1 : Hid (R.all (·.oneCell') = true) := by show _ = _; rw [hR.out]; exact bytesA_one _
  have hzz : Hid (z.size = R.size) := by show _ = _; rw [hzs.out, hR.out, bytesA_size, sumOf_length]
  have r0 : R[0]? = some (.int .u8 221) := by rw [hR.out]; obtain ⟨r, h⟩ := abc_bytes; rw [h]; rfl
  have r1 : R[1]? = some (.int .u8 175) := by rw [hR.out]; obtain ⟨r, h⟩ := abc_bytes; rw [h]; rfl
  have r2 : R[2]? = some (.int .u8 53) := by rw [hR.out]; obtain ⟨r, h⟩ := abc_bytes; rw [h]; rfl
  have r3 : R[3]? = some (.int .u8 161) := by rw [hR.out]; obtain ⟨r, h⟩ := abc_bytes; rw [h]; rfl
  have kc := Lib.run_convert_bytes_const (P := Try.prog) w 27 5 #[.int .u8 97, .int .u8 98, .int .u8 99] 3 3 Try.underlying27 Try.underlying5
  have hb0 : Below w.heap.size w (w.alloc (.cells #[.int .u8 97, .int .u8 98, .int .u8 99] 5 (3, 4))) := (Below.refl _ _).alloc (Nat.le_refl _) _
  have hr0 := reads_abc w
  have hs0 : (w.alloc (.cells #[.int .u8 97, .int .u8 98, .int .u8 99] 5 (3, 4))).heap.size = w.heap.size + 1 := by simp
  have HR0 := Lib.hid hr0
  have HB0 := Lib.hid hb0
  have HS0 := Lib.hid hs0
  clear hr0 hb0 hs0
  go_enter Try.func8, Try.ntmps8
  go_wp2_with fail
  clear kc
  have hW : Hid (Below w.heap.size w ((w.alloc (.cells #[.int .u8 97, .int .u8 98, .int .u8 99] 5 (3, 4))).alloc (.cells #[.slice (some ⟨w.heap.size, 0, none⟩) 3 3] 27))) := Lib.hid (HB0.out.alloc HB0.out.size _)
  have hrows : RowsR ((w.alloc (.cells #[.int .u8 97, .int .u8 98, .int .u8 99] 5 (3, 4))).alloc (.cells #[.slice (some ⟨w.heap.size, 0, none⟩) 3 3] 27)) (w.heap.size + 2) (some ⟨w.heap.size + 1, 0, none⟩) 1 [[97, 98, 99]] := by
    refine ⟨rfl, fun i hi => ?_⟩
    obtain rfl : i = 0 := by omega
    refine ⟨_, some ⟨w.heap.size, 0, none⟩, 3, 3, rfl, by show w.heap.size + 1 < _; omega, ?_, ((HR0.out.alloc (by rw [HS0.out]; omega) _).more (by omega)), Nat.le_refl _⟩
    show World.cell? _ ⟨w.heap.size + 1, 0, none⟩ = _
    rw [cell_of_row _ _ 0 _ _ _ (heap_alloc2_new w _ _)]; rfl
  refine (of_any _ 1 1 (w.heap.size + 2) [[97, 98, 99]] _ hrows (by simp) (by simp) (by omega)).mono ?_
  rintro e w3 ⟨rfl, hb3⟩
  rw [show ([[97, 98, 99]] : List (List UInt8)).flatten = [97, 98, 99] from rfl, ← hR.out]
  have HB3 := Lib.hid (hW.out.trans (hb3.mono hW.out.size))
  clear hb3 hrows
  go_wp2_with (first | (refine wpList_store_row rfl 25 (.tmp 1) (.tmp 5) rfl w3.heap.size R rfl rfl 25 z (heap_alloc_new w3 _) hbs.out hzz.out hb1.out ?_; rw [setRow_alloc1]))
  go_ret
  exact ⟨rfl, HB3.out.alloc HB3.out.size _⟩
end Go.Proofs.Ytblielcmjdnlfaa
