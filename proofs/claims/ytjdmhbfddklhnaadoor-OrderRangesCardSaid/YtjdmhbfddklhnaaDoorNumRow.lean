/-
  A slice of float64 that came in reads as a list of words. No conditions.
-/
import Derived.Test.YtjdmhbfddklhnaaDoorNumCmp
import Derived.Test.YtjdmhbfddklhnaaDoorRowBytes
import Derived.OpenShut
set_option linter.unusedSimpArgs false
set_option linter.unusedVariables false
namespace Go.Proofs.YtjdmhbfddklhnaaDoor
open Go Go.Proofs Go.RowKit Num9

section
variable {H : Type} {enc : TypeId × Value → H} {P : Program} {w : World} {base : Nat} {spare : Nat → Bool} {held : Bool}

theorem trod_float9 {e : TypeId} (he : P.underlying e = some (.float .f64)) {n : Nat} {cs : List Value} {y : DataW H × List MemPlace} (h : DataW.trod enc P w base spare held n e cs = some y) : ∃ b, cs = [.float .f64 b] ∧ b < 2 ^ 64 := by
  cases n with
  | zero => simp [DataW.trod] at h
  | succ n =>
    simp only [DataW.trod, he] at h
    split at h
    all_goals first
      | (cases h; done)
      | (rename_i heq; cases heq; done)
      | (rename_i heq; cases heq; simp at h; obtain ⟨⟨rfl, hw⟩, _⟩ := h; exact ⟨_, rfl, by simpa [Lit.wf] using hw⟩)

def floatOf (y : List Value) : Nat := match y with | [.float _ b] => b | _ => 0

theorem open_floats {t e : TypeId} {fuel : Nat} {cs : List Value} {x : DataW H × List MemPlace} (ht : P.underlying t = some (.slice e)) (he : P.underlying e = some (.float .f64)) (hc : P.cellsOf e = 1)
    (h : DataW.trod enc P w base spare held fuel t cs = some x) :
    cs = [.slice none 0 0] ∨
    ∃ (a : Addr) (len cap : Nat) (zs : List Nat), cs = [.slice (some a) len cap] ∧ len ≤ cap ∧ cap ≤ maxLen ∧ zs.length = len ∧
      (∀ i, i < len → w.cell? (a.add i) = some (.float .f64 (zs.getD i 0))) ∧ (∀ n ∈ zs, n < 2 ^ 64) := by
  rcases DataW.trod_slice ht h with h0 | ⟨a, len, cap, elems, rest, n, _, rfl, rfl, hb, hl, hm, hlen, hel, hsp, hns⟩
  · exact Or.inl h0.1
  right
  have each : ∀ i, i < len → ∃ b, w.cell? (a.add i) = some (.float .f64 b) ∧ b < 2 ^ 64 := by
    intro i hi
    have hy : elems[i]? = some elems[i] := List.getElem?_eq_getElem (by omega)
    have hb' := hel i hi
    rw [hy, hc, Nat.mul_one, Option.bind_eq_some_iff] at hb'
    obtain ⟨cs', hcs, hy'⟩ := hb'
    obtain ⟨b, rfl, hw⟩ := trod_float9 he hy'
    exact ⟨b, ChangeShapes.cell_of_cells?_one hcs, hw⟩
  let f : Nat → Nat := fun i => match w.cell? (a.add i) with | some (.float _ b) => b | _ => 0
  refine ⟨a, len, cap, (List.range len).map f, rfl, hl, hm, by simp, ?_, ?_⟩
  · intro i hi
    obtain ⟨b, hc1, hb1⟩ := each i hi
    have : ((List.range len).map f).getD i 0 = f i := by
      simp [List.getD, List.getElem?_map, List.getElem?_range, hi]
    rw [this, hc1]
    simp [f, hc1]
  · intro n hn
    obtain ⟨i, hi, rfl⟩ := List.mem_map.1 hn
    obtain ⟨b, hc1, hb1⟩ := each i (List.mem_range.1 hi)
    simp [f, hc1]; exact hb1
end

theorem reads_floats {w : World} {a : Addr} {len : Nat} {zs : List Nat} (hz : zs.length = len) (hc : ∀ i, i < len → w.cell? (a.add i) = some (.float .f64 (zs.getD i 0))) : Reads w w.heap.size 1 (some a) len (fCells zs) := by
  refine ⟨by simp [fCells, hz], fun h0 => ⟨a, rfl, ?_, fun j u hu => ?_⟩⟩
  · have := hc 0 h0
    rcases Nat.lt_or_ge a.block w.heap.size with h' | h'
    · exact h'
    · rw [World.cell?] at this
      have e : (a.add 0).block = a.block := block_of_add a 0
      rw [e, Array.getElem?_eq_none h'] at this
      simp at this
  · have hj : j < zs.length := by
      have := (List.getElem?_eq_some_iff.1 hu).1
      simpa [fCells] using this
    rw [hc j (by omega)]
    simp only [fCells, List.getElem?_map, List.getElem?_eq_getElem hj, Option.map_some, Option.some.injEq] at hu
    rw [← hu]
    simp [List.getD, List.getElem?_eq_getElem hj]

/-- What the walk is told of a slice of float64 that came in. -/
def IsFloats (w : World) (a : Option Addr) (len cap : Nat) (zs : List Nat) : Prop :=
  (a = none ∧ len = 0 ∧ cap = 0 ∧ zs = []) ∨
  ∃ x, a = some x ∧ len ≤ cap ∧ cap ≤ maxLen ∧ zs.length = len ∧ (∀ i, i < len → w.cell? (x.add i) = some (.float .f64 (zs.getD i 0))) ∧ ∀ n ∈ zs, n < 2 ^ 64

theorem reads_of_floats {w : World} {a : Option Addr} {len cap : Nat} {zs : List Nat} (h : IsFloats w a len cap zs) : Reads w w.heap.size 1 a len (fCells zs) ∧ len ≤ cap ∧ ∀ n ∈ zs, n < 2 ^ 64 := by
  rcases h with ⟨rfl, rfl, rfl, rfl⟩ | ⟨x, rfl, hl, hm, hz, hc, hw⟩
  · exact ⟨⟨by simp [fCells], fun h => absurd h (by omega)⟩, Nat.le_refl _, by simp⟩
  · exact ⟨reads_floats hz hc, hl, hw⟩
theorem float_wf {n : Nat} (h : (Lit.float .f64 n).wf = true) : n < 2 ^ 64 := by simpa [Lit.wf] using h
end Go.Proofs.YtjdmhbfddklhnaaDoor
