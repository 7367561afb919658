/-
  A slice of bytes that came in reads as a list of bytes. No conditions.
-/
import Derived.Test.YtjdmhbfddklhnaaDoorWords
import Derived.OpenShut
set_option linter.unusedSimpArgs false
set_option linter.unusedVariables false
namespace Go.Proofs.YtjdmhbfddklhnaaDoor
open Go Go.Proofs Go.RowKit

/-- WHAT THE WALK IS TOLD OF A SLICE OF INTEGERS THAT CAME IN: it is nil; or it leads to a row of 'cap' cells, the numbers 'zs' (the first 'len' are its elements, the rest its spare room), each fitting its kind. -/
def IsRow (k : IntKind) (w : World) (a : Option Addr) (len cap : Nat) (zs : List Int) : Prop :=
  (a = none ∧ len = 0 ∧ cap = 0 ∧ zs = []) ∨
  ∃ x, a = some x ∧ len ≤ cap ∧ cap ≤ maxLen ∧ zs.length = cap ∧ (∀ i, i < zs.length → w.cell? (x.add i) = some (.int k (zs.getD i 0))) ∧ ∀ n ∈ zs, (Lit.int k n).wf = true


def bytesOf (len : Nat) (zs : List Int) : List UInt8 := (zs.take len).map fun z => z.toNat.toUInt8

theorem reads_of_row {w : World} {a : Option Addr} {len cap : Nat} {zs : List Int} (h : IsRow .u8 w a len cap zs) : Reads w w.heap.size 1 a len (Lib.byteCells (bytesOf len zs)) ∧ len ≤ cap ∧ cap ≤ maxLen := by
  rcases h with ⟨rfl, rfl, rfl, rfl⟩ | ⟨x, rfl, hl, hm, hz, hc, hw⟩
  · exact ⟨⟨by simp [bytesOf, Lib.byteCells], fun h => absurd h (by omega)⟩, Nat.le_refl _, by unfold maxLen; omega⟩
  · refine ⟨⟨?_, fun hn => ⟨x, rfl, ?_, ?_⟩⟩, hl, hm⟩
    · simp [bytesOf, Lib.byteCells_length]; omega
    · have := hc 0 (by omega)
      rcases Nat.lt_or_ge x.block w.heap.size with h' | h'
      · exact h'
      · rw [World.cell?] at this
        have e : (x.add 0).block = x.block := block_of_add x 0
        rw [e, Array.getElem?_eq_none h'] at this
        simp at this
    · intro j u hu
      have hj : j < (zs.take len).length := by
        have := (List.getElem?_eq_some_iff.1 hu).1
        simpa [bytesOf, Lib.byteCells] using this
      have hjz : j < zs.length := by simp at hj; omega
      rw [hc j hjz]
      simp only [bytesOf, Lib.byteCells, List.map_map, List.getElem?_map, List.getElem?_eq_getElem hj, Option.map_some, Option.some.injEq, Function.comp_apply] at hu
      rw [← hu, List.getElem_take]
      have hb := hw zs[j] (List.getElem_mem hjz)
      have hb2 := bounds_u8 hb
      have e1 : zs.getD j 0 = zs[j] := by simp [List.getD, List.getElem?_eq_getElem hjz]
      rw [e1]
      congr 2
      simp
      omega

end Go.Proofs.YtjdmhbfddklhnaaDoor
