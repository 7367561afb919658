/-
  An append of one byte onto a row that a conversion from a text made: it reads as the list with the byte behind it. Conditions: the new length takes at most 2^47 bytes.
-/
import Derived.Test.YtibebghnhicmfaaDoorHold
import Derived.ArgAppend
set_option linter.unusedVariables false
namespace Go.Proofs.YtibebghnhicmfaaDoor
open Go Go.Proofs Go.RowKit Oct

theorem HoldsBytes.snoc {g S : Nat} {L : List UInt8} {w : World} (h : HoldsBytes g S L w) (hS : L.length < S) (x : UInt8) : HoldsBytes g S (L ++ [x]) (w.setCell ⟨g, L.length, none⟩ (.int .u8 x.toNat)) := by
  obtain ⟨cs, h1, h2, h3, h4⟩ := h
  refine ⟨cs.setIfInBounds L.length (.int .u8 x.toNat), by simpa using h1, by simp; omega, Joins.block_setCell h3 _, ?_⟩
  intro i hi
  have hi' : i ≤ L.length := by simp at hi; omega
  rw [Array.getElem?_setIfInBounds]
  by_cases e : L.length = i
  · subst e
    rw [if_pos rfl, if_pos (by omega)]
    simp
  · rw [if_neg e, List.getElem_append_left (by omega)]
    exact h4 i (by omega)

/-- What such an append leaves. -/
def AppLeft (B : Nat) (w0 : World) (l : List UInt8) (v : Value) (w : World) : Prop :=
  ∃ A c, v = .slice A l.length c ∧ l.length ≤ c ∧ Reads w w.heap.size 1 A l.length (Lib.byteCells l) ∧ Below B w0 w

theorem wpList_append_hold (w : World) {ops : Array Oper} {rest : List Oper} {o : Oper} {a : Act} {Q : Exit → Act → World → Prop}
    (hg : o.guard = none) (s x : Operand) (hop : o.op = Op.call { callee := Callee.builtin Builtin.append, args := #[s, x], argTypes := #[22, 22] })
    (g S n cap : Nat) (L : List UInt8) (hn : L.length = n) (hB : HoldsBytes g S L w) (hS : cap ≤ S) (hs : a.eval s = .slice (some ⟨g, 0, none⟩) n cap)
    (gx : Nat) (y : UInt8) (hx : a.eval x = .slice (some ⟨gx, 0, none⟩) 1 1) (hcx : w.cell? ⟨gx, 0, none⟩ = some (.int .u8 y.toNat))
    (b2 : n + 1 ≤ 140737488355328) (B : Nat) (w0 : World) (hb : Below B w0 w) (hBg : B ≤ g)
    (hK : ∀ v' w', AppLeft B w0 (L ++ [y]) v' w' → wpList Tryd.prog ops Q rest (a.put o.dst v') w') :
    wpList Tryd.prog ops Q (o :: rest) a w := by
  subst hn
  obtain ⟨i0, hi, hz0, hz1, hz2⟩ := info_parts infoByte
  have hlen : (L ++ [y]).length = L.length + 1 := by simp
  refine wpList_append_arg w hg s x 22 hop 5 i0 (.int .u8 0) 1 1 Tryd.underlying22 hi hz0 hz1 hz2 rfl (by decide) g 0 L.length cap (Lib.byteCells L) hs (by simp [Lib.byteCells_length]) ?_
    ⟨gx, 0, none⟩ 1 1 [.int .u8 y.toNat] hx rfl ?_ ?_ ?_ (by unfold maxLen; omega) (by omega) ?_ ?_
  · intro j u hj
    rw [Nat.zero_add]
    have hjl : j < L.length := by
      have := (List.getElem?_eq_some_iff.1 hj).1
      simpa [Lib.byteCells_length] using this
    simp [Lib.byteCells, List.getElem?_map, List.getElem?_eq_getElem hjl] at hj
    rw [hB.cell hjl, hj]
  · intro j u hj
    match j, hj with
    | 0, hj =>
      simp at hj; subst hj
      exact hcx
  · intro u hu; simp at hu; subst hu; rfl
  · intro hroom j hj
    have hj0 : j = 0 := by simpa using hj
    subst hj0
    obtain ⟨cs, h1, h2, h3, h4⟩ := hB
    refine ⟨?_, ?_⟩
    · rw [Lib.cell_of_heap h3]
      simp; omega
    · simp [World.frozen?, h3]; omega
  · intro hroom
    have hh := hB.snoc (by omega) y
    refine hK _ _ ⟨some ⟨g, 0, none⟩, cap, by rw [hlen], by rw [hlen]; exact hroom, ?_, ?_⟩
    · have := hh.reads
      rw [hlen] at this ⊢
      simpa [World.setCells] using this
    · have := hb.setCell (p := ⟨g, L.length, none⟩) hBg (.int .u8 y.toNat)
      simpa [World.setCells] using this
  · intro hfull v' w' hown hgrow
    obtain ⟨A, c, rfl, hc⟩ : ∃ A c, v' = .slice A (L.length + 1) c ∧ L.length + 1 ≤ c := by
      rcases hown.2 with ⟨h1, h2⟩ | ⟨g', cap', cur, hv, _, _, hc', _⟩
      · omega
      · exact ⟨_, _, hv, hc'⟩
    have hlt : g < w.heap.size := by
      obtain ⟨cs, h1, h2, h3, h4⟩ := hB
      rcases Nat.lt_or_ge g w.heap.size with h' | h'
      · exact h'
      · simp [Array.getElem?_eq_none h'] at h3
    refine hK _ _ ⟨A, c, by rw [hlen], by rw [hlen]; exact hc, ?_, hb.grown hgrow (by omega) (fun k hk => by cases hk)⟩
    have e : Lib.byteCells L ++ [Value.int .u8 y.toNat] = Lib.byteCells (L ++ [y]) := by simp [Lib.byteCells]
    rw [e] at hown
    rw [hlen]
    exact Reads.of_own hown

end Go.Proofs.YtibebghnhicmfaaDoor
