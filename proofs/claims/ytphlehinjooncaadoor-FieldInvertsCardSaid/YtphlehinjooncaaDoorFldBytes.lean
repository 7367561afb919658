/-
  The contract of field's Bytes. No conditions but that the element is told by its limbs.
-/
import Derived.Test.YtphlehinjooncaaDoorFldElem
set_option linter.unusedVariables false
set_option linter.unusedSimpArgs false
namespace Go.Proofs.YtphlehinjooncaaDoor
open Go Go.Proofs Go.RowKit F5

/-- A number's 32 bytes, the lowest first. -/
def fbytes (n : Nat) : List UInt8 := (digs 256 n 32).map UInt8.ofNat
theorem fbytes_length (n : Nat) : (fbytes n).length = 32 := by simp [fbytes, digs_length]
theorem fbytes_get (n i : Nat) (h : i < 32) : ((fbytes n).getD i 0).toNat = n / 256 ^ i % 256 := by
  have e : (fbytes n).getD i 0 = UInt8.ofNat ((digs 256 n 32).getD i 0) := by
    simp only [fbytes, List.getD_eq_getElem?_getD, List.getElem?_map]
    rw [List.getElem?_eq_getElem (by rw [digs_length]; exact h)]; rfl
  rw [e, digs_getD _ _ _ _ h, UInt8.toNat_ofNat']
  omega
theorem fbytes_limb (n k j : Nat) (hj : j < 8) : (n / M ^ k % M) / 2 ^ (j * 8) % 256 = n / 256 ^ (8 * k + j) % 256 := by
  have e1 : (256 : Nat) ^ (8 * k + j) = M ^ k * 256 ^ j := by
    rw [Nat.pow_add, Nat.pow_mul]
  have e2 : (2 : Nat) ^ (j * 8) = 256 ^ j := by rw [Nat.mul_comm, Nat.pow_mul]
  rw [e1, e2, ← Nat.div_div_eq_div_mul]
  generalize n / M ^ k = x
  have e3 : M = 256 ^ j * 256 ^ (8 - j) := by rw [← Nat.pow_add, show j + (8 - j) = 8 by omega]
  rw [e3, Nat.mod_mul_right_div_self]
  obtain ⟨d, hd⟩ : ∃ d, 8 - j = d + 1 := ⟨7 - j, by omega⟩
  rw [hd, Nat.pow_succ, Nat.mod_mul_left_mod]

/-- the first k bytes are told. -/
def partB (l : List UInt8) (k : Nat) : List UInt8 := l.take k ++ List.replicate (32 - k) 0
theorem partB_length {l : List UInt8} {k : Nat} (h : l.length = 32) (hk : k ≤ 32) : (partB l k).length = 32 := by simp [partB]; omega
theorem bytesA_set (l : List UInt8) (k : Nat) (x : UInt8) : (bytesA l).setIfInBounds k (.int .u8 (x.toNat : Int)) = bytesA (l.set k x) := by
  simp [bytesA, Lib.byteCells, List.map_set]
theorem partB_set {l : List UInt8} {k : Nat} (h : l.length = 32) (hk : k < 32) : (partB l k).set k (l.getD k 0) = partB l (k + 1) := by
  unfold partB
  have e1 : (l.take k).length = k := by simp; omega
  rw [List.set_append_right _ _ (by omega), e1, Nat.sub_self, show 32 - k = (32 - (k + 1)) + 1 by omega, List.replicate_succ, List.set_cons_zero]
  have hkl : k < l.length := by omega
  rw [List.take_succ_eq_append_getElem hkl, List.getD_eq_getElem?_getD, List.getElem?_eq_getElem hkl, List.append_assoc]
  rfl
theorem partB_all {l : List UInt8} (h : l.length = 32) : partB l 32 = l := by simp [partB, ← h]
theorem info32 : (Tryd.prog.info? 41).map (·.size) = some 32 := by kernel_rfl
theorem fbytes_info (n : Nat) : (Tryd.prog.info? 41).map (·.size) = some (bytesA (fbytes n)).size := by rw [bytesA_size, fbytes_length]; exact info32

def BytesAt (n : Nat) (w : World) (k : Nat) (wr : World) : Prop :=
  Blk wr w.heap.size 28 (limA n) ∧ Blk wr (w.heap.size + 1) 41 (bytesA (List.replicate 32 0)) ∧ Blk wr (w.heap.size + 2) 41 (bytesA (partB (fbytes n) k)) ∧ Below w.heap.size w wr

set_option maxHeartbeats 2000000 in
set_option maxRecDepth 100000 in
theorem bytes_e (n : Nat) (w : World) : Calls Tryd.prog 27 #[elemV n] w fun e w' => e = .returned (.agg (bytesA (fbytes n))) ∧ Below w.heap.size w w' := by
  have hal : Tryd.prog.arrayLen 26 = 4 := by kernel_rfl
  have hel : Tryd.prog.elem 26 = 23 := by kernel_rfl
  have hal2 : Tryd.prog.arrayLen 41 = 32 := by kernel_rfl
  have hel2 : Tryd.prog.elem 41 = 5 := by kernel_rfl
  unfold elemV
  obtain ⟨cn, hcn⟩ : ∃ c, Hid (c = limA n) := ⟨_, Lib.hid rfl⟩
  rw [← hcn.out]
  obtain ⟨z, hz⟩ : ∃ z, Hid (z = bytesA (List.replicate 32 0)) := ⟨_, Lib.hid rfl⟩
  have hz0 : ∀ W, (zeroValue 41).run Tryd.prog W = .ok (.agg z) W := by
    rw [hz.out]; exact (zero_of_info (n := 32) (by kernel_rfl)).1
  go_enter Tryd.func27, Tryd.ntmps27
  go_wp2
  go_loopw [4, 5] (fun _ iv wr => ∃ i, i ≤ 32 ∧ iv = .int .i64 (i : Nat) ∧ BytesAt n w i wr) (fun _ iv _ => 32 - (intOf iv).toNat)
  case atStart =>
    refine ⟨0, by omega, rfl, ?_⟩
    obtain ⟨b1, b2, b3, hb, _⟩ := three_blks w cn z z 28
    refine ⟨?_, ?_, ?_, (((Below.refl _ _).alloc (Nat.le_refl _) _).alloc (by simp) _).alloc (by simp; omega) _⟩
    · rw [← hcn.out]; exact ((Blk.new w _ cn).alloc _).alloc _
    · rw [← hz.out]
      have := (Blk.new (w.alloc (.cells cn 28)) 41 z).alloc (.cells z 41)
      rwa [show (w.alloc (.cells cn 28)).heap.size = w.heap.size + 1 by simp] at this
    · have := Blk.new ((w.alloc (.cells cn 28)).alloc (.cells z 41)) 41 z
      rw [show ((w.alloc (.cells cn 28)).alloc (.cells z 41)).heap.size = w.heap.size + 2 by simp] at this
      rw [show partB (fbytes n) 0 = List.replicate 32 0 from rfl, ← hz.out]
      exact this
  case round =>
    obtain ⟨i, hi, rfl, b1, b2, b3, hb⟩ := hrel
    clear hz0
    by_cases hlt : i < 32
    · obtain ⟨k, hk⟩ : ∃ k, k = i / 8 := ⟨_, rfl⟩
      obtain ⟨j, hj⟩ : ∃ j, j = i % 8 := ⟨_, rfl⟩
      have hij : i = 8 * k + j := by omega
      have hk4 : k < 4 := by omega
      have hj8 : j < 8 := by omega
      have hdiv : (i : Int) / 8 = (k : Int) := by omega
      have hmod : (i : Int) % 8 = (j : Int) := by omega
      have hx : wr.cell? ⟨w.heap.size, k, none⟩ = some (.int .u64 ((n / M ^ k % M : Nat) : Int)) := (b1.cell k).trans (limA_get n k hk4)
      have hbl := fbytes_limb n k j hj8
      rw [← hij, ← fbytes_get n i hlt] at hbl
      obtain ⟨x, hX⟩ := named (n / M ^ k % M)
      rw [← hX.out] at hx hbl
      obtain ⟨y, hY⟩ : ∃ y, Hid (y = (fbytes n).getD i 0) := ⟨_, Lib.hid rfl⟩
      rw [← hY.out] at hbl
      have hc : ∃ u, wr.cell? ⟨w.heap.size + 2, i, none⟩ = some u := ⟨_, (b3.cell i).trans (Array.getElem?_eq_getElem (by rw [bytesA_size, partB_length (fbytes_length n) hi]; exact hlt))⟩
      obtain ⟨u, hu⟩ := hc
      have hf := b3.frozen i
      have hsh2 : IntKind.u8.wrap ((x : Int) / 2 ^ (j * 8)) = (y.toNat : Int) := by
        rw [IntKind.wrap_u8', ← hbl]; simp
      have hmin : min (j * 8) 64 = j * 8 := by omega
      have ht : ((j : Int) * 8).toNat = j * 8 := by omega
      have hnext : Hid (BytesAt n w (i + 1) (wr.setCell ⟨w.heap.size + 2, i, none⟩ (.int .u8 (y.toNat : Int)))) := Lib.hid (by
        refine ⟨b1.far (by show w.heap.size ≠ w.heap.size + 2; omega) _, b2.far (by show w.heap.size + 1 ≠ w.heap.size + 2; omega) _, ?_, hb.setCell (by show w.heap.size ≤ w.heap.size + 2; omega) _⟩
        have := b3.set_ i (.int .u8 (y.toNat : Int))
        rwa [bytesA_set, hY.out, partB_set (fbytes_length n) hlt, ← hY.out] at this)
      clear b1 b2 b3 hb hk hj hij hbl
      go_wp2
      exact ⟨⟨i + 1, by omega, by go_num, hnext.out⟩, by simp [intOf]; omega⟩
    · obtain rfl : i = 32 := by omega
      have b3' : Hid (Blk wr (w.heap.size + 2) 41 (bytesA (fbytes n))) := by rw [partB_all (fbytes_length n)] at b3; exact Lib.hid b3
      have hRi := Lib.hid (fbytes_info n)
      have hR1 : Hid ((bytesA (fbytes n)).all (·.oneCell') = true) := Lib.hid (bytesA_one _)
      have hzz : Hid ((bytesA (List.replicate 32 0)).size = (bytesA (fbytes n)).size) := Lib.hid (by rw [bytesA_size, bytesA_size, fbytes_length]; rfl)
      have B2 := Lib.hid b2
      have HBL := Lib.hid hb
      obtain ⟨R, hR⟩ : ∃ R, Hid (R = bytesA (fbytes n)) := ⟨_, Lib.hid rfl⟩
      rw [← hR.out] at b3' hRi hR1 hzz
      clear b1 b2 b3 hb
      go_wp2_with (first | (refine wpList_load_row rfl 41 (.tmp 3) rfl (w.heap.size + 2) rfl 41 R (0, 0) _ b3'.out Tryd.underlying41 rfl hRi.out ?_) |
        (refine wpList_store_row rfl 41 (.tmp 2) (.tmp 21) rfl (w.heap.size + 1) R rfl rfl 41 _ B2.out hRi.out hzz.out hR1.out ?_))
      refine bodyPost_ret (v := .agg R) ?_ rfl ⟨by rw [hR.out], below_row HBL.out (by omega) _⟩
      exact results_cell_row Tryd.results27 _ _ (w.heap.size + 1) 41 R (0, 0) _ rfl (B2.out.row R) Tryd.underlying41 rfl hRi.out
end Go.Proofs.YtphlehinjooncaaDoor
