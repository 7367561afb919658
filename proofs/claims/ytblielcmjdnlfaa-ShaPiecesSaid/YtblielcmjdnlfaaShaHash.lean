/-
  A hash in memory: its 217 cells; what is old stays but one block. No conditions.
-/
import Derived.Test.YtblielcmjdnlfaaShaSched
set_option linter.unusedVariables false
namespace Go.Proofs.Ytblielcmjdnlfaa
open Go Go.Proofs Go.RowKit Sha5

theorem grown_set (w : World) (r i : Nat) (x : Value) : w.grownBy (w.setCell ⟨r, i, none⟩ x) (some r) :=
  ⟨rfl, rfl, rfl, by simp, fun k _ hk => Below.heap_setCell w ⟨r, i, none⟩ x k (fun e => hk (by rw [e]))⟩
theorem grown_below {w w' : World} (h : Below w.heap.size w w') (row : Option Nat) : w.grownBy w' row := ⟨h.os, h.tape, h.output, h.size, fun k hk _ => h.block k hk⟩
theorem Drew.below {w w' : World} (h : Drew w w') : Below w.heap.size w w' := by
  obtain ⟨n, rfl⟩ := h
  induction n with
  | zero => exact Below.refl _ _
  | succ n ih => exact ih.drew
theorem Blk.old {w w' : World} {g t : Nat} {cs : Array Value} (h : Blk w g t cs) (hb : Below w.heap.size w w') : Blk w' g t cs := h.below hb h.lt
theorem Blk.drewD {w w' : World} {g t : Nat} {cs : Array Value} (h : Blk w g t cs) (hb : Drew w w') : Blk w' g t cs := h.old hb.below

def hashL (l : List Nat) (b : List UInt8) (n : Nat) : List Value := l.map u64v ++ (KS.map u64v ++ (Lib.byteCells b ++ [u64v n]))
def hashA (l : List Nat) (b : List UInt8) (n : Nat) : Array Value := (hashL l b n).toArray

theorem hashL_length (l : List Nat) (b : List UInt8) (n : Nat) (hl : l.length = 8) (hb : b.length = 128) : (hashL l b n).length = 217 := by
  simp [hashL, hl, hb, KS_length, Lib.byteCells_length]
theorem hashA_size (l : List Nat) (b : List UInt8) (n : Nat) (hl : l.length = 8) (hb : b.length = 128) : (hashA l b n).size = 217 := by
  simpa [hashA] using hashL_length l b n hl hb
theorem map_u64v_get (l : List Nat) (i : Nat) (h : i < l.length) : (l.map u64v)[i]? = some (.int .u64 ((l.getD i 0 : Nat) : Int)) := by
  simp [u64v, List.getD, List.getElem?_eq_getElem h]
theorem hashA_word (l : List Nat) (b : List UInt8) (n i : Nat) (hl : l.length = 8) (hi : i < 8) : (hashA l b n)[i]? = some (.int .u64 ((l.getD i 0 : Nat) : Int)) := by
  rw [hashA, List.getElem?_toArray, hashL, List.getElem?_append_left (by simp; omega)]
  exact map_u64v_get l i (by omega)
theorem hashA_const (l : List Nat) (b : List UInt8) (n i : Nat) (hl : l.length = 8) (hi : i < 80) : (hashA l b n)[8 + i]? = some (.int .u64 ((KS.getD i 0 : Nat) : Int)) := by
  rw [hashA, List.getElem?_toArray, hashL, List.getElem?_append_right (by simp; omega), List.length_map, hl, show 8 + i - 8 = i by omega, List.getElem?_append_left (by simp [KS_length]; omega)]
  exact map_u64v_get KS i (by rw [KS_length]; exact hi)
theorem hashA_byte (l : List Nat) (b : List UInt8) (n i : Nat) (hl : l.length = 8) (hb : b.length = 128) (hi : i < 128) : (hashA l b n)[88 + i]? = some (.int .u8 ((b.getD i 0).toNat : Int)) := by
  rw [hashA, List.getElem?_toArray, hashL, List.getElem?_append_right (by simp; omega), List.length_map, hl, List.getElem?_append_right (by simp [KS_length]; omega), List.length_map, KS_length,
    show 88 + i - 8 - 80 = i by omega, List.getElem?_append_left (by rw [Lib.byteCells_length]; omega)]
  simp [Lib.byteCells, List.getD, List.getElem?_eq_getElem (show i < b.length by omega)]
theorem hashA_count (l : List Nat) (b : List UInt8) (n : Nat) (hl : l.length = 8) (hb : b.length = 128) : (hashA l b n)[216]? = some (.int .u64 (n : Int)) := by
  rw [hashA, List.getElem?_toArray, hashL, List.getElem?_append_right (by simp; omega), List.length_map, hl, List.getElem?_append_right (by simp [KS_length]), List.length_map, KS_length,
    List.getElem?_append_right (by rw [Lib.byteCells_length]; omega), Lib.byteCells_length, hb]
  rfl
theorem hashA_setWord (l : List Nat) (b : List UInt8) (n i x : Nat) (hl : l.length = 8) (hi : i < 8) : (hashA l b n).setIfInBounds i (.int .u64 (x : Int)) = hashA (l.set i x) b n := by
  rw [hashA, List.setIfInBounds_toArray, hashL, List.set_append_left _ _ (by simp; omega)]
  simp [hashA, hashL, u64v, List.map_set]
theorem hashA_setCount (l : List Nat) (b : List UInt8) (n x : Nat) (hl : l.length = 8) (hb : b.length = 128) : (hashA l b n).setIfInBounds 216 (.int .u64 (x : Int)) = hashA l b x := by
  rw [hashA, List.setIfInBounds_toArray, hashL, List.set_append_right _ _ (by simp; omega), List.length_map, hl, List.set_append_right _ _ (by simp [KS_length]), List.length_map, KS_length,
    List.set_append_right _ _ (by rw [Lib.byteCells_length]; omega), Lib.byteCells_length, hb]
  rfl
theorem St.list_length (s : St) : s.list.length = 8 := rfl

/-- the words, when k of them are added. -/
def mixed (s v : St) (k : Nat) : List Nat := (addSt s v).list.take k ++ s.list.drop k
theorem mixed_zero (s v : St) : mixed s v 0 = s.list := rfl
theorem mixed_all (s v : St) : mixed s v 8 = (addSt s v).list := rfl
theorem mixed_length (s v : St) (k : Nat) (hk : k ≤ 8) : (mixed s v k).length = 8 := by simp [mixed, St.list_length]; omega
theorem mixed_get (s v : St) (k : Nat) (hk : k < 8) : (mixed s v k).getD k 0 = s.list.getD k 0 := by
  rw [List.getD_eq_getElem?_getD, List.getD_eq_getElem?_getD, mixed, List.getElem?_append_right (by simp [St.list_length]; omega)]
  simp [St.list_length, Nat.min_eq_left (Nat.le_of_lt hk)]
theorem mixed_step (s v : St) (k : Nat) (hk : k < 8) : (mixed s v k).set k ((s.list.getD k 0 + v.list.getD k 0) % M) = mixed s v (k + 1) := by
  match k, hk with
  | 0, _ => rfl
  | 1, _ => rfl
  | 2, _ => rfl
  | 3, _ => rfl
  | 4, _ => rfl
  | 5, _ => rfl
  | 6, _ => rfl
  | 7, _ => rfl
theorem list_lt {s : St} (h : s.ok) (i : Nat) : s.list.getD i 0 < M := by
  obtain ⟨h1, h2, h3, h4, h5, h6, h7, h8⟩ := h
  match i with
  | 0 => exact h1
  | 1 => exact h2
  | 2 => exact h3
  | 3 => exact h4
  | 4 => exact h5
  | 5 => exact h6
  | 6 => exact h7
  | 7 => exact h8
  | n + 8 => simp [St.list, M]
end Go.Proofs.Ytblielcmjdnlfaa
