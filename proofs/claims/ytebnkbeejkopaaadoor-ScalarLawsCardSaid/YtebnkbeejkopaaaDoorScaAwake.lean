/-
  The contract of the laws' awake. Condition: the program's numbers modulo L are as they must be.
-/
import Derived.Test.YtebnkbeejkopaaaDoorScaOk
set_option linter.unusedVariables false
set_option linter.unusedSimpArgs false
namespace Go.Proofs.YtebnkbeejkopaaaDoor
open Go Go.Proofs Go.RowKit F5

theorem LL_bytes : fbytes LL = [237, 211, 245, 92, 26, 99, 18, 88, 214, 156, 247, 162, 222, 249, 222, 20, 0, 0, 0, 0, 0, 0, 0, 0, 0, 0, 0, 0, 0, 0, 0, 16] := by decide +kernel
theorem LL_lit : (#[.int .u8 237, .int .u8 211, .int .u8 245, .int .u8 92, .int .u8 26, .int .u8 99, .int .u8 18, .int .u8 88, .int .u8 214, .int .u8 156, .int .u8 247, .int .u8 162, .int .u8 222, .int .u8 249, .int .u8 222, .int .u8 20, .int .u8 0, .int .u8 0, .int .u8 0, .int .u8 0, .int .u8 0, .int .u8 0, .int .u8 0, .int .u8 0, .int .u8 0, .int .u8 0, .int .u8 0, .int .u8 0, .int .u8 0, .int .u8 0, .int .u8 0, .int .u8 16] : Array Value) = bytesA (fbytes LL) := by rw [LL_bytes]; rfl
theorem LL_256 : LL < 2 ^ 256 := by decide
theorem bval_LL : bval (fbytes LL) % LL = 0 := by rw [bval_fbytes LL_256, Nat.mod_self]
theorem bval_7 : bval [7] % LL = 7 := by decide +kernel
theorem zero_eq : decide (fbytes 0 = List.replicate 32 0) = true := by decide +kernel
theorem reads7 {w : World} {g : Nat} (h : Blk w g 5 #[.int .u8 7]) : Reads w w.heap.size 1 (some ⟨g, 0, none⟩) 1 (Lib.byteCells [7]) := reads_blk (l := [7]) h
theorem reads_bytes (w : World) (l : List UInt8) : Reads (w.alloc (.cells (bytesA l) 5)) (w.heap.size + 1) 1 (some ⟨w.heap.size, 0, none⟩) l.length (Lib.byteCells l) := by
  have h := reads_blk (Blk.new w 5 (bytesA l))
  rwa [show (w.alloc (.cells (bytesA l) 5)).heap.size = w.heap.size + 1 by simp] at h

set_option maxHeartbeats 4000000 in
set_option maxRecDepth 100000 in
theorem awake6_any {Q : World → Prop} (H : ScaOk Q) (w : World) (hQ : Q w) : Calls Tryd.prog 7 #[] w fun e w' => e = .returned (.bool true) ∧ Below w.heap.size w w' := by
  have CR1 : Hid (∀ ad V, Reads V V.heap.size 1 (some ad) 32 (Lib.byteCells (fbytes LL)) → Q V → Calls Tryd.prog 8 #[.slice (some ad) 32 32] V fun e w' => e = .returned (.agg (bytesA (fbytes 0))) ∧ Below V.heap.size V w') := Lib.hid fun ad V hr hq => by
    have := H.reduce (some ad) 32 32 _ V (by omega) (by omega) (by unfold maxLen; omega) hr hq
    rwa [bval_LL] at this
  have CR2 : Hid (∀ ad V, Reads V V.heap.size 1 (some ad) 1 (Lib.byteCells [7]) → Q V → Calls Tryd.prog 8 #[.slice (some ad) 1 1] V fun e w' => e = .returned (.agg (bytesA (fbytes 7))) ∧ Below V.heap.size V w') := Lib.hid fun ad V hr hq => by
    have := H.reduce (some ad) 1 1 _ V (by omega) (by omega) (by unfold maxLen; omega) hr hq
    rwa [bval_7] at this
  have hidx : ∀ W, (Instr.index 24 (.agg (bytesA (fbytes 7))) (.int .i64 0)).run Tryd.prog W = .ok (.int .u8 7) W := fun W => run_index_one Tryd.underlying24 Tryd.isAgg5 Tryd.sizeOf5 _ 0 _ (by omega) (by rw [bytesA_get _ _ (by rw [fbytes_length]; omega), fbytes_get _ _ (by omega)]; rfl) W
  have HQ := Lib.hid hQ
  have hW := reads_bytes w (fbytes LL)
  rw [fbytes_length, ← LL_lit] at hW
  have hb := below_new1 w (.cells #[.int .u8 237, .int .u8 211, .int .u8 245, .int .u8 92, .int .u8 26, .int .u8 99, .int .u8 18, .int .u8 88, .int .u8 214, .int .u8 156, .int .u8 247, .int .u8 162, .int .u8 222, .int .u8 249, .int .u8 222, .int .u8 20, .int .u8 0, .int .u8 0, .int .u8 0, .int .u8 0, .int .u8 0, .int .u8 0, .int .u8 0, .int .u8 0, .int .u8 0, .int .u8 0, .int .u8 0, .int .u8 0, .int .u8 0, .int .u8 0, .int .u8 0, .int .u8 16] 5)
  rw [show w.heap.size + 1 = (w.alloc (.cells #[.int .u8 237, .int .u8 211, .int .u8 245, .int .u8 92, .int .u8 26, .int .u8 99, .int .u8 18, .int .u8 88, .int .u8 214, .int .u8 156, .int .u8 247, .int .u8 162, .int .u8 222, .int .u8 249, .int .u8 222, .int .u8 20, .int .u8 0, .int .u8 0, .int .u8 0, .int .u8 0, .int .u8 0, .int .u8 0, .int .u8 0, .int .u8 0, .int .u8 0, .int .u8 0, .int .u8 0, .int .u8 0, .int .u8 0, .int .u8 0, .int .u8 0, .int .u8 16] 5)).heap.size by simp] at hW
  clear hQ
  go_enter Tryd.func7, Tryd.ntmps7
  go_wp2_with fail
  generalize w.alloc (.cells #[.int .u8 237, .int .u8 211, .int .u8 245, .int .u8 92, .int .u8 26, .int .u8 99, .int .u8 18, .int .u8 88, .int .u8 214, .int .u8 156, .int .u8 247, .int .u8 162, .int .u8 222, .int .u8 249, .int .u8 222, .int .u8 20, .int .u8 0, .int .u8 0, .int .u8 0, .int .u8 0, .int .u8 0, .int .u8 0, .int .u8 0, .int .u8 0, .int .u8 0, .int .u8 0, .int .u8 0, .int .u8 0, .int .u8 0, .int .u8 0, .int .u8 0, .int .u8 16] 5) = W at *
  have HR := Lib.hid hW
  have HB := Lib.hid hb
  have HQW := Lib.hid (H.old HQ.out hb)
  clear hW hb
  refine (CR1.out _ _ HR.out HQW.out).mono ?_
  rintro e w1 ⟨rfl, hb1⟩
  have HB1 := Lib.hid (HB.out.trans (hb1.mono HB.out.size))
  have HQ1 := Lib.hid (H.old HQW.out hb1)
  have hze := zero_eq
  clear hb1
  go_wp2_with (first | (refine wpList_eql_bytes rfl (.tmp 4) (.tmp 5) _ (fbytes 0) (List.replicate 32 0) (fbytes_length _) (by simp) rfl rfl rfl ?_; rw [zero_eq]))
  have hn := Blk.new w1 5 #[.int .u8 7]
  have hb2 := below_new1 w1 (.cells #[.int .u8 7] 5)
  refine (CR2.out _ _ (reads7 hn) (H.old HQ1.out hb2)).mono ?_
  rintro e w2 ⟨rfl, hb3⟩
  have HB2 := Lib.hid ((HB1.out.trans (hb2.mono HB1.out.size)).trans (hb3.mono (HB1.out.trans (hb2.mono HB1.out.size)).size))
  clear hn hb2 hb3
  go_wp2_with fail
  go_ret
  exact ⟨rfl, HB2.out⟩
end Go.Proofs.YtebnkbeejkopaaaDoor
