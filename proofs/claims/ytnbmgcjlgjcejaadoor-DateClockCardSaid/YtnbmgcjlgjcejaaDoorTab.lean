/-
  The library's table of powers of ten, as the program's text lays it, and how it is kept. No conditions.
-/
import Derived.Test.YtnbmgcjlgjcejaaDoorStr
import Derived.Lib.LaidTab
import Derived.Lib.ItoaMem
set_option linter.unusedVariables false
namespace Go.Proofs.YtnbmgcjlgjcejaaDoor
open Go Go.Proofs Go.RowKit

abbrev Tab (w : World) : Prop := Lib.TabIs Tryd.prog w "internal/strconv.uint64pow10" .u64 Lib.pow10Tab

theorem tabAt : Tryd.prog.globalNamed "internal/strconv.uint64pow10" = some 0 := by kernel_rfl
theorem Tab.keep {w w' : World} (h : Tab w) (hh : w'.heap[(0 : Nat)]? = w.heap[(0 : Nat)]?) : Tab w' := by
  have h : w.var? Tryd.prog "internal/strconv.uint64pow10" = _ := h
  show w'.var? Tryd.prog "internal/strconv.uint64pow10" = _
  rw [← h]
  unfold World.var?
  rw [tabAt]
  simp only [Option.bind_some]
  rw [hh]
theorem Tab.lt {w : World} (h : Tab w) : 0 < w.heap.size := by
  have h : w.var? Tryd.prog "internal/strconv.uint64pow10" = _ := h
  unfold World.var? at h
  rw [tabAt] at h
  simp only [Option.bind_some] at h
  rcases Nat.lt_or_ge 0 w.heap.size with h' | h'
  · exact h'
  · rw [Array.getElem?_eq_none h'] at h; cases h
theorem Tab.old {w w' : World} (h : Tab w) (hb : Below w.heap.size w w') : Tab w' := h.keep (hb.block _ h.lt)
theorem Tab.grown {w w' : World} {row : Option Nat} (h : Tab w) (hg : w.grownBy w' row) (hr : row ≠ some 0) : Tab w' := h.keep (hg.block _ h.lt (fun e => hr e.symm))

theorem below_grow (w : World) (k : Nat) (os : Array Obj) : Below w.heap.size w (Sort.grow (w.drewN k) os) :=
  ⟨rfl, rfl, rfl, by simp [Sort.grow], fun i hi => by
    show (w.heap ++ os)[i]? = _
    rw [Array.getElem?_append_left hi]⟩

end Go.Proofs.YtnbmgcjlgjcejaaDoor
