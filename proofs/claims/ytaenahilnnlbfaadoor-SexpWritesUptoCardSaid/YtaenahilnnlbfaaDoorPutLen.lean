/-
  The contract of octet.PutLen, in a world in which the library's table of powers of ten holds what its text lays. Conditions: that table.
-/
import Derived.Test.YtaenahilnnlbfaaDoorStr
import Derived.Test.YtaenahilnnlbfaaDoorShelf
set_option linter.unusedVariables false
namespace Go.Proofs.YtaenahilnnlbfaaDoor
open Go Go.Proofs Go.RowKit

abbrev Tab (w : World) : Prop := Lib.TabIs Tryd.prog w "internal/strconv.uint64pow10" .u64 Lib.pow10Tab

theorem tabAt : Tryd.prog.globalNamed "internal/strconv.uint64pow10" = some 1 := by kernel_rfl
theorem Tab.keep {w w' : World} (h : Tab w) (hh : w'.heap[(1 : Nat)]? = w.heap[(1 : Nat)]?) : Tab w' := by
  have h : w.var? Tryd.prog "internal/strconv.uint64pow10" = _ := h
  show w'.var? Tryd.prog "internal/strconv.uint64pow10" = _
  rw [← h]
  unfold World.var?
  rw [tabAt]
  simp only [Option.bind_some]
  rw [hh]
theorem Tab.lt {w : World} (h : Tab w) : 1 < w.heap.size := by
  have h : w.var? Tryd.prog "internal/strconv.uint64pow10" = _ := h
  unfold World.var? at h
  rw [tabAt] at h
  simp only [Option.bind_some] at h
  rcases Nat.lt_or_ge 1 w.heap.size with h' | h'
  · exact h'
  · rw [Array.getElem?_eq_none h'] at h; cases h
theorem Tab.old {w w' : World} (h : Tab w) (hb : Below w.heap.size w w') : Tab w' := h.keep (hb.block _ h.lt)
theorem Tab.grown {w w' : World} {row : Option Nat} (h : Tab w) (hg : w.grownBy w' row) (hr : row ≠ some 1) : Tab w' := h.keep (hg.block _ h.lt (fun e => hr e.symm))

theorem below_grow (w : World) (k : Nat) (os : Array Obj) : Below w.heap.size w (Sort.grow (w.drewN k) os) :=
  ⟨rfl, rfl, rfl, by simp [Sort.grow], fun i hi => by
    show (w.heap ++ os)[i]? = _
    rw [Array.getElem?_append_left hi]⟩

set_option maxHeartbeats 1000000 in
set_option maxRecDepth 100000 in
theorem putLen_any (n : Int) (w : World) (h0 : -9223372036854775808 ≤ n) (h1 : n ≤ 9223372036854775807) (htab : Tab w) :
    Calls Tryd.prog 43 #[.int .i64 n] w fun e w' => e = .returned (.string ⟨(Lib.decDigits n.toNat).toArray⟩) ∧ Below w.heap.size w w' := by
  have he : Lib.itoa (max n 0) = Lib.decDigits n.toNat := by
    unfold Lib.itoa
    rw [if_neg (by omega), show (max n 0).toNat = n.toNat from by omega]
  have HE := Lib.hid he
  have HT := Lib.hid htab
  have hb := fun k os => below_grow w k os
  have HB := Lib.hid hb
  clear he htab hb
  go_enter Tryd.func43, Tryd.ntmps43
  go_wp2_with fail
  refine (Tryd.strconv_Itoa (max n 0) (by omega) (by omega) w HT.out).mono ?_
  rintro e w1 ⟨rfl, k, os, rfl⟩
  rw [HE.out]
  have hbb := HB.out k os
  generalize Sort.grow (w.drewN k) os = w1 at *
  go_wp2
  go_ret
  exact ⟨rfl, hbb⟩

end Go.Proofs.YtaenahilnnlbfaaDoor
