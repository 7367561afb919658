/-
  A number's 32 bytes, and what is read of them. No conditions.
-/
import Derived.Test.YtebnkbeejkopaaaDoorScaRef2
set_option linter.unusedVariables false
set_option linter.unusedSimpArgs false
namespace F5
theorem limb_bytes (v i : Nat) : v / B ^ i % B = v / 256 ^ (2 * i) % 256 + 256 * (v / 256 ^ (2 * i + 1) % 256) := by
  have e : B ^ i = 256 ^ (2 * i) := by rw [Nat.pow_mul]
  rw [e, Nat.pow_succ, ← Nat.div_div_eq_div_mul]
  generalize v / 256 ^ (2 * i) = x
  unfold B
  omega
end F5
namespace Go.Proofs.YtebnkbeejkopaaaDoor
open Go Go.Proofs Go.RowKit F5

/-- A number's 32 bytes, the lowest first. -/
def fbytes (n : Nat) : List UInt8 := (digs 256 n 32).map UInt8.ofNat
theorem fbytes_length (n : Nat) : (fbytes n).length = 32 := by simp [fbytes, digs_length]
theorem fbytes_get (n i : Nat) (h : i < 32) : ((fbytes n).getD i 0).toNat = n / 256 ^ i % 256 := by
  have e : (fbytes n).getD i 0 = UInt8.ofNat ((digs 256 n 32).getD i 0) := by
    simp only [fbytes, List.getD_eq_getElem?_getD, List.getElem?_map]
    rw [List.getElem?_eq_getElem (by rw [digs_length]; exact h)]; rfl
  rw [e, digs_getD _ _ _ _ h, UInt8.toNat_ofNat']
  omega
theorem fbytes_inj {n m : Nat} (hn : n < 2 ^ 256) (hm : m < 2 ^ 256) : fbytes n = fbytes m ↔ n = m := by
  constructor
  · intro h
    have h2 : digs 256 n 32 = digs 256 m 32 := by
      apply List.ext_getElem?
      intro i
      by_cases hi : i < 32
      · have e : ((fbytes n).getD i 0).toNat = ((fbytes m).getD i 0).toNat := by rw [h]
        rw [fbytes_get _ _ hi, fbytes_get _ _ hi, ← digs_getD 256 n 32 i hi, ← digs_getD 256 m 32 i hi] at e
        rw [List.getD_eq_getElem?_getD, List.getD_eq_getElem?_getD, List.getElem?_eq_getElem (by rw [digs_length]; exact hi), List.getElem?_eq_getElem (by rw [digs_length]; exact hi)] at e
        rw [List.getElem?_eq_getElem (by rw [digs_length]; exact hi), List.getElem?_eq_getElem (by rw [digs_length]; exact hi)]
        simpa using e
      · rw [List.getElem?_eq_none (by rw [digs_length]; omega), List.getElem?_eq_none (by rw [digs_length]; omega)]
    exact digs_inj h2 (show n < 256 ^ 32 from hn) (show m < 256 ^ 32 from hm)
  · rintro rfl; rfl
/-- Any 32 bytes are a number's. -/
theorem fbytes_of (l : List UInt8) (h : l.length = 32) : ∃ v, v < 2 ^ 256 ∧ l = fbytes v := by
  have ha : All 256 (l.map UInt8.toNat) := fun x hx => by
    obtain ⟨b, _, rfl⟩ := List.mem_map.1 hx
    exact b.toNat_lt
  refine ⟨val 256 (l.map UInt8.toNat), ?_, ?_⟩
  · have := val_lt _ ha
    rwa [List.length_map, h] at this
  · have hd := digs_val _ ha
    rw [List.length_map, h] at hd
    unfold fbytes
    rw [hd, List.map_map]
    have : (UInt8.ofNat ∘ UInt8.toNat) = id := by funext x; simp
    rw [this, List.map_id]

theorem reads_two (w : World) (x y : UInt8) : Reads (w.alloc (.cells #[.int .u8 x.toNat, .int .u8 y.toNat] 5)) (w.heap.size + 1) 1 (some ⟨w.heap.size, 0, none⟩) 2 (Lib.byteCells [x, y]) := by
  refine ⟨rfl, fun _ => ⟨_, rfl, by simp, fun j u hj => ?_⟩⟩
  match j, hj with
  | 0, hj =>
    simp [Lib.byteCells] at hj
    subst hj
    show World.cell? _ ⟨w.heap.size, 0, none⟩ = _
    rw [Lib.cell_of_heap (heap_alloc_new w _)]; rfl
  | 1, hj =>
    simp [Lib.byteCells] at hj
    subst hj
    show World.cell? _ ⟨w.heap.size, 1, none⟩ = _
    rw [Lib.cell_of_heap (heap_alloc_new w _)]; rfl
theorem fbytes_two (n i : Nat) (hi : i < 16) : (fbytes n).take (2 * (i + 1)) = (fbytes n).take (2 * i) ++ [(fbytes n).getD (2 * i) 0, (fbytes n).getD (2 * i + 1) 0] := by
  have h1 : 2 * i < (fbytes n).length := by rw [fbytes_length]; omega
  have h2 : 2 * i + 1 < (fbytes n).length := by rw [fbytes_length]; omega
  rw [show 2 * (i + 1) = (2 * i + 1) + 1 by omega, List.take_succ_eq_append_getElem h2, List.take_succ_eq_append_getElem h1, List.append_assoc]
  simp [List.getD, List.getElem?_eq_getElem h1, List.getElem?_eq_getElem h2]

theorem bval_fbytes {v : Nat} (h : v < 2 ^ 256) : bval (fbytes v) = v := by
  unfold bval fbytes
  rw [List.map_map]
  have e : (digs 256 v 32).map (UInt8.toNat ∘ UInt8.ofNat) = digs 256 v 32 := by
    conv => rhs; rw [← List.map_id (digs 256 v 32)]
    apply List.map_congr_left
    intro x hx
    have := digs_all (b := 256) (by decide) v 32 x hx
    show (UInt8.ofNat x).toNat = x
    rw [UInt8.toNat_ofNat']
    omega
  rw [e, val_digs, Nat.mod_eq_of_lt (show v < 256 ^ 32 from h)]
end Go.Proofs.YtebnkbeejkopaaaDoor
