/-
  Blocks of bytes that the call itself made by a conversion from a text: what they hold, how they read. No conditions.
-/
import Derived.Test.YtaenahilnnlbfaaDoorStr
import Derived.Lib.SmallJoins
set_option linter.unusedVariables false
namespace Go.Proofs.YtaenahilnnlbfaaDoor
open Go Go.Proofs Go.RowKit

def HoldsBytes (g S : Nat) (L : List UInt8) (w : World) : Prop := ∃ cs : Array Value, cs.size = S ∧ L.length ≤ S ∧ w.heap[g]? = some (.cells cs 5 (S, S + 1)) ∧ ∀ j (h : j < L.length), cs[j]? = some (.int .u8 L[j].toNat)

theorem HoldsBytes.cell {g S : Nat} {L : List UInt8} {w : World} (h : HoldsBytes g S L w) {j : Nat} (hj : j < L.length) : w.cell? ⟨g, j, none⟩ = some (.int .u8 L[j].toNat) := by
  obtain ⟨cs, h1, h2, h3, h4⟩ := h
  rw [Lib.cell_of_heap h3]; exact h4 j hj
theorem HoldsBytes.frozen {g S : Nat} {L : List UInt8} {w : World} (h : HoldsBytes g S L w) {j : Nat} (hj : j < L.length) : w.frozen? ⟨g, j, none⟩ = false := by
  obtain ⟨cs, h1, h2, h3, h4⟩ := h
  simp [World.frozen?, h3]; omega
theorem HoldsBytes.set_ {g S : Nat} {L : List UInt8} {w : World} (h : HoldsBytes g S L w) {j : Nat} (hj : j < L.length) (x : UInt8) : HoldsBytes g S (L.set j x) (w.setCell ⟨g, j, none⟩ (.int .u8 x.toNat)) := by
  obtain ⟨cs, h1, h2, h3, h4⟩ := h
  refine ⟨cs.setIfInBounds j (.int .u8 x.toNat), by simpa using h1, by simpa using h2, Joins.block_setCell h3 _, ?_⟩
  intro i hi
  have hi' : i < L.length := by simpa using hi
  rw [Array.getElem?_setIfInBounds, List.getElem_set]
  by_cases e : j = i
  · subst e
    rw [if_pos rfl, if_pos rfl, if_pos (by omega)]
  · rw [if_neg e, if_neg e]
    exact h4 i hi'
theorem HoldsBytes.reads {g S : Nat} {L : List UInt8} {w : World} (h : HoldsBytes g S L w) : Reads w w.heap.size 1 (some ⟨g, 0, none⟩) L.length (Lib.byteCells L) := by
  obtain ⟨cs, h1, h2, h3, h4⟩ := h
  refine ⟨by rw [Lib.byteCells_length, Nat.mul_one], fun _ => ⟨_, rfl, ?_, ?_⟩⟩
  · rcases Nat.lt_or_ge g w.heap.size with h' | h'
    · exact h'
    · simp [Array.getElem?_eq_none h'] at h3
  · intro j u hu
    have hj : j < L.length := by
      have := (List.getElem?_eq_some_iff.1 hu).1
      simpa [Lib.byteCells_length] using this
    have hu' : u = .int .u8 L[j].toNat := by
      simp [Lib.byteCells, List.getElem?_map, List.getElem?_eq_getElem hj] at hu
      exact hu.symm
    subst hu'
    have e : (⟨g, 0, none⟩ : Addr).add j = ⟨g, j, none⟩ := by unfold Addr.add; split <;> simp_all
    rw [e, Lib.cell_of_heap h3]; exact h4 j hj
theorem HoldsBytes.new (w : World) (s : ByteArray) : HoldsBytes w.heap.size (Lib.bytesCells w 5 s).size s.data.toList (Lib.bytesWorld w 5 s) := by
  have hsz : s.data.toList.length ≤ (Lib.bytesCells w 5 s).size := by simp [Lib.bytesCells]
  refine ⟨_, rfl, hsz, Lib.bytesWorld_at_new w 5 s, ?_⟩
  intro j hj
  have hj' : j < s.size := by simpa using hj
  have := Lib.bytesWorld_cell w 5 s j hj'
  rw [Lib.cell_of_heap (Lib.bytesWorld_at_new w 5 s)] at this
  rw [this]
  simp [List.getD, List.getElem?_eq_getElem hj]
theorem bytesCells_cap (w : World) (s : ByteArray) : grownCap w s.size 0 5 ≤ (Lib.bytesCells w 5 s).size := by
  have h : s.data.size = s.size := rfl
  simp [Lib.bytesCells]; omega
theorem HoldsBytes.below {g S B : Nat} {L : List UInt8} {w w' : World} (h : HoldsBytes g S L w) (hb : Below B w w') (hg : g < B) : HoldsBytes g S L w' := by
  obtain ⟨cs, h1, h2, h3, h4⟩ := h
  exact ⟨cs, h1, h2, (hb.block g hg).trans h3, h4⟩
theorem HoldsBytes.lt {g S : Nat} {L : List UInt8} {w : World} (h : HoldsBytes g S L w) : g < w.heap.size := by
  obtain ⟨cs, h1, h2, h3, h4⟩ := h
  rcases Nat.lt_or_ge g w.heap.size with h' | h'
  · exact h'
  · simp [Array.getElem?_eq_none h'] at h3
theorem bytesWorld_below (w : World) (s : ByteArray) : Below w.heap.size w (Lib.bytesWorld w 5 s) :=
  ⟨by simp [Lib.bytesWorld, World.freeze, World.alloc, World.drew, -World.alloc_eq, -World.drew_eq], by simp [Lib.bytesWorld, World.freeze, World.alloc, World.drew, -World.alloc_eq, -World.drew_eq], by simp [Lib.bytesWorld, World.freeze, World.alloc, World.drew, -World.alloc_eq, -World.drew_eq], by rw [Lib.bytesWorld_size]; omega, fun k hk => Lib.bytesWorld_at_old w 5 s k hk⟩

theorem own_form {w : World} {base size n : Nat} {e : TypeId} {v : Value} {xs : List Value} (h : w.ownsRow base e size v n xs) : ∃ A c, v = .slice A n c := by
  rcases h.2 with ⟨h1, h2⟩ | ⟨g, cap, cur, hv, _⟩
  · exact ⟨none, 0, by rw [h1, h2]⟩
  · exact ⟨_, _, hv⟩

end Go.Proofs.YtaenahilnnlbfaaDoor
