/-
  Single operations on structures that lie in blocks, builds, and tests of flags, for walks that are written by a program. Conditions: those that each states.
-/
import Derived.Test.YtjdmhbfddklhnaaDoorSchQ
import Derived.Laws.Rows
import Derived.Laws.ResultCell
set_option linter.unusedVariables false
set_option linter.unusedSimpArgs false
set_option maxRecDepth 100000
namespace Go.Proofs.YtjdmhbfddklhnaaDoor
open Go Go.Proofs Go.RowKit
section
variable {P : Program} {o : Oper} {ev : Operand → Value} {w : World}
theorem quiet_fld (s : TypeId) (x : Operand) (f : Nat) (v u : Value) (hx : ev x = v) (hr : ∀ W, (Instr.fieldAt s v f).run P W = .ok u W) (ho : o.op = .fieldAddr s x f) : (execOp ev o).run P w = .ok (.value u) w := by
  unfold execOp
  simp only [ho, hx, Sem.run_bind, hr, Result.andThen_ok, Sem.run_pure]
theorem run_loadVar_offs (w : World) (g off : Nat) (t : TypeId) (cs : Array Value) (d : TypeDesc) (hc : ∀ j v, cs[j]? = some v → w.cell? ⟨g, off + j, none⟩ = some v) (hu : P.underlying t = some d) (hd : (match d with | .struct _ | .array _ _ => true | _ => false) = true) (hi : (P.info? t).map (·.size) = some cs.size) :
    (loadVar t ⟨g, off, none⟩).run P w = .ok (.agg cs) w := by
  have hl : (loadCells ⟨g, off, none⟩ cs.toList.length).run P w = .ok cs.toList.toArray w :=
    run_loadCells_list (P := P) w ⟨g, off, none⟩ cs.toList (fun j v hv => by
      have hadd : (⟨g, off, none⟩ : Addr).add j = ⟨g, off + j, none⟩ := by unfold Addr.add; split <;> simp_all
      rw [hadd]
      exact hc j v (by simpa using hv))
  cases hq : P.info? t with
  | none => simp [hq] at hi
  | some i =>
    have hs : i.size = cs.size := by simpa [hq] using hi
    have hagg : (isAgg t).run P w = .ok true w := by
      unfold isAgg
      rw [Sem.run_bind, run_underlying hu w]
      cases d <;> simp_all [Result.andThen]
    simp only [Array.length_toList, Array.toArray_toList] at hl
    simp [loadVar, Sem.run_bind, hagg, sizeOf, typeInfo, hq, hs, hl, Result.andThen]
theorem quiet_agg (t : TypeId) (x : Operand) (g off : Nat) (hx : ev x = .pointer (some ⟨g, off, none⟩)) (cs : Array Value) {d : TypeDesc} (hc : ∀ j v, cs[j]? = some v → w.cell? ⟨g, off + j, none⟩ = some v) (hu : P.underlying t = some d) (hd : (match d with | .struct _ | .array _ _ => true | _ => false) = true) (hi : (P.info? t).map (·.size) = some cs.size) (ho : o.op = .load t x) :
    (execOp ev o).run P w = .ok (.value (.agg cs)) w := by
  unfold execOp
  simp only [ho, hx, Instr.loadAt, Instr.sureAddr, Sem.run_bind, Sem.run_pure, Result.andThen_ok, run_loadVar_offs w g off t cs d hc hu hd hi]
theorem quiet_bld (t : TypeId) (parts : Array (Nat × Operand)) (vals : List (Nat × Value)) (hv : (parts.map fun (i, x) => (i, ev x)).toList = vals) (cells : Array Value) (hb : P.built t vals = some cells) (ho : o.op = .build t parts) : (execOp ev o).run P w = .ok (.value (.agg cells)) w := by
  unfold execOp
  simp only [ho, Sem.run_bind, run_build w t _ cells (by rw [hv]; exact hb), Result.andThen_ok, Sem.run_pure]
theorem quiet_eqlB (x y : Operand) (p q b : Bool) (T K : TypeId) (hu : P.underlying T = some .bool) (hb : (p == q) = b) (hx : ev x = .bool p) (hy : ev y = .bool q) (ho : o.op = .binOp .eql T x y K) : (execOp ev o).run P w = .ok (.value (.bool b)) w := by
  subst hb
  unfold execOp
  simp only [ho, hx, hy]
  simp [go_sem, hu, Result.andThen]
theorem quiet_neqB (x y : Operand) (p q b : Bool) (T K : TypeId) (hu : P.underlying T = some .bool) (hb : (p != q) = b) (hx : ev x = .bool p) (hy : ev y = .bool q) (ho : o.op = .binOp .neq T x y K) : (execOp ev o).run P w = .ok (.value (.bool b)) w := by
  subst hb
  unfold execOp
  simp only [ho, hx, hy]
  simp [go_sem, hu, Result.andThen]
  cases p <;> cases q <;> rfl
theorem map4N {x y z u : Operand} {a b c d : Value} (h1 : ev x = a) (h2 : ev y = b) (h3 : ev z = c) (h4 : ev u = d) : (#[x, y, z, u] : Array Operand).map ev = #[a, b, c, d] := by simp [h1, h2, h3, h4]
end
def isRowB (d : TypeDesc) : Bool := match d with | .struct _ | .array _ _ => true | _ => false
theorem results_st_tmp {fn : Func} {p u : Tmp} {ty : TypeId} {P : Program} (h : fn.results = #[.cell p ty, .tmp u]) (tmps : Array Value) (w : World) (g : Nat) (t : TypeId) (cs : Array Value) (v : Value) (d : TypeDesc)
    (hp : tmps.getD p undef = .pointer (some ⟨g, 0, none⟩)) (hv : tmps.getD u undef = v) (hg : Blk w g t cs) (hu : P.underlying ty = some d) (hd : isRowB d = true) (hi : (P.info? ty).map (·.size) = some cs.size) :
    (results fn tmps).run P w = .ok (.tuple #[.agg cs, v]) w := by
  rw [results_cell_tmp h, hp, hv]
  have hl := run_loadVar_row w g t ty cs (0, 0) d hg hu (by cases d <;> simp_all [isRowB]) hi
  simp [asAddr, Result.andThen, hl]
theorem part_at {cells cs : Array Value} (off : Nat) (h : ∃ r, cells.toList.drop off = cs.toList ++ r) (j : Nat) (v : Value) (hj : cs[j]? = some v) : cells[off + j]? = some v := by
  obtain ⟨r, h⟩ := h
  have e : (cells.toList.drop off)[j]? = some v := by
    rw [h, List.getElem?_append_left]
    · simpa using hj
    · have := (Array.getElem?_eq_some_iff.1 hj).1
      simpa using this
  rw [List.getElem?_drop] at e
  simpa using e
end Go.Proofs.YtjdmhbfddklhnaaDoor
