/-
  Single quiet operations by their operands' values: nil checks, cells, lengths, comparisons, sums, places in a slice; operations that a test leaves out; calls of closures. Conditions: those that each states.
-/
import Derived.Test.YtjdmhbfddklhnaaDoorSchL
import Derived.Tactics
set_option linter.unusedVariables false
set_option linter.unusedSimpArgs false
set_option maxRecDepth 100000
namespace Go.Proofs.YtjdmhbfddklhnaaDoor.Sch
open Go Go.Proofs Go.RowKit
section
variable {P : Program} {ops : Array Oper} {m : Nat} {a0 : Act} {w0 : World} {PL : List Rk} {k : Nat} {r : List Rk}
theorem gr_offV {j d : Nat} {want : Bool} {u : Value} (hPL : PL[k]? = some (.val undef)) (hgd : (opA ops k).guard = some (j, want)) (hd : dstOf ops j = some d)
    (hv : ∀ (a : Act) (V : World), Here ops m a0 w0 PL k a V → a.eval (.tmp d) = u) (hp : passes want u = false) (hr : GoodsR P ops m a0 w0 PL (k + 1) r) : GoodsR P ops m a0 w0 PL k (.val undef :: r) :=
  ⟨fun a V h1 h2 h3 => .inr ⟨by rw [wanted_of hgd hd (hv a V ⟨h1, h2, fun j hj => h3 j hj⟩)]; exact hp, (relOf_at hPL).2 rfl, by
    show (match PL[k]? with | some r => r.new | none => false) = false; rw [hPL]; rfl⟩, hr⟩
end
end Go.Proofs.YtjdmhbfddklhnaaDoor.Sch
namespace Go.Proofs.YtjdmhbfddklhnaaDoor
open Go Go.Proofs Go.RowKit
section
variable {P : Program} {o : Oper} {ev : Operand → Value} {V : World}
theorem quiet_nilCheck (x : Operand) (ad : Addr) (hx : ev x = .pointer (some ad)) (ho : o.op = .nilCheck x) : (execOp ev o).run P V = .ok (.value (.pointer (some ad))) V := by
  unfold execOp
  simp only [ho, hx]
  go_simp
theorem run_loadVar_cell {v : Value} (T : TypeId) (ad : Addr) {d : TypeDesc} (hu : P.underlying T = some d) (hd : (match d with | .struct _ | .array _ _ => true | _ => false) = false) (hc : V.cell? ad = some v) : (loadVar T ad).run P V = .ok v V := by
  have hagg : (isAgg T).run P V = .ok false V := by
    unfold isAgg
    rw [Sem.run_bind, run_underlying hu V]
    cases d <;> simp_all [Result.andThen]
  simp [loadVar, Sem.run_bind, hagg, Result.andThen, hc]
theorem quiet_cell {v : Value} (T : TypeId) (x : Operand) (ad : Addr) (hx : ev x = .pointer (some ad)) {d : TypeDesc} (hu : P.underlying T = some d) (hd : (match d with | .struct _ | .array _ _ => true | _ => false) = false) (hc : V.cell? ad = some v) (ho : o.op = .load T x) : (execOp ev o).run P V = .ok (.value v) V := by
  unfold execOp
  simp only [ho, hx, Instr.loadAt, Instr.sureAddr, Sem.run_bind, Sem.run_pure, Result.andThen_ok, run_loadVar_cell T ad hu hd hc]
theorem quiet_len (x : Operand) (A : Option Addr) (n c : Nat) (T e : TypeId) (hx : ev x = .slice A n c) (hu : P.underlying T = some (.slice e)) (ho : o.op = .call { callee := .builtin .len, args := #[x], argTypes := #[T] }) : (execOp ev o).run P V = .ok (.value (.int .i64 (n : Int))) V := by
  unfold execOp
  simp only [ho, resolve, invoke, builtin, Sem.run_bind, Sem.run_pure, Result.andThen_ok, List.map_toArray, List.map_cons, List.map_nil, hx]
  simp [Builtin.len_, run_underlying hu, Result.andThen, goInt]
theorem quiet_lss (x y : Operand) (p q : Int) (T K : TypeId) (hx : ev x = .int .i64 p) (hy : ev y = .int .i64 q) (hu : P.underlying T = some (.int .i64)) (ho : o.op = .binOp .lss T x y K) : (execOp ev o).run P V = .ok (.value (.bool (decide (p < q)))) V := by
  unfold execOp
  simp only [ho, hx, hy]
  go_simp
theorem quiet_lssB (x y : Operand) (p q : Int) (T K : TypeId) (b : Bool) (hb : decide (p < q) = b) (hx : ev x = .int .i64 p) (hy : ev y = .int .i64 q) (hu : P.underlying T = some (.int .i64)) (ho : o.op = .binOp .lss T x y K) : (execOp ev o).run P V = .ok (.value (.bool b)) V := by
  rw [← hb]; exact quiet_lss x y p q T K hx hy hu ho
theorem quiet_gtrB (x y : Operand) (p q : Int) (T K : TypeId) (b : Bool) (hb : decide (q < p) = b) (hx : ev x = .int .i64 p) (hy : ev y = .int .i64 q) (hu : P.underlying T = some (.int .i64)) (ho : o.op = .binOp .gtr T x y K) : (execOp ev o).run P V = .ok (.value (.bool b)) V := by
  rw [← hb]
  unfold execOp
  simp only [ho, hx, hy]
  go_simp
theorem quiet_subI (x y : Operand) (p q : Int) (T K : TypeId) (hr : -9223372036854775808 ≤ p - q ∧ p - q ≤ 9223372036854775807) (hx : ev x = .int .i64 p) (hy : ev y = .int .i64 q) (hu : P.underlying T = some (.int .i64)) (ho : o.op = .binOp .sub T x y K) : (execOp ev o).run P V = .ok (.value (.int .i64 (p - q))) V := by
  have hw : IntKind.i64.wrap (p - q) = p - q := IntWalk.i64_in _ (by omega)
  unfold execOp
  simp only [ho, hx, hy]
  go_simp
theorem quiet_addN (x y : Operand) (p q s : Nat) (T K : TypeId) (hs : s = p + q) (hr : s ≤ 1000000000) (hx : ev x = .int .i64 (p : Nat)) (hy : ev y = .int .i64 (q : Nat)) (hu : P.underlying T = some (.int .i64)) (ho : o.op = .binOp .add T x y K) : (execOp ev o).run P V = .ok (.value (.int .i64 (s : Nat))) V := by
  have hw : IntKind.i64.wrap ((p : Int) + (q : Int)) = (s : Int) := by rw [IntWalk.i64_in _ (by omega), hs]; rfl
  unfold execOp
  simp only [ho, hx, hy]
  go_simp
theorem quiet_geqB (x y : Operand) (p q : Int) (k : IntKind) (T K : TypeId) (b : Bool) (hb : decide (q ≤ p) = b) (hx : ev x = .int k p) (hy : ev y = .int k q) (hu : P.underlying T = some (.int k)) (ho : o.op = .binOp .geq T x y K) : (execOp ev o).run P V = .ok (.value (.bool b)) V := by
  rw [← hb]
  unfold execOp
  simp only [ho, hx, hy]
  go_simp
theorem quiet_index (x y : Operand) (ad : Addr) (n c i : Nat) (T e : TypeId) (hx : ev x = .slice (some ad) n c) (hy : ev y = .int .i64 (i : Int)) (hi : i < n) (hu : P.underlying T = some (.slice e)) (hs : (P.info? e).map (·.size) = some 1) (ho : o.op = .indexAddr T x y) : (execOp ev o).run P V = .ok (.value (.pointer (some (ad.add i)))) V := by
  obtain ⟨inf, hinf, hs2⟩ : ∃ q, P.info? e = some q ∧ q.size = 1 := by
    cases hq : P.info? e with
    | none => rw [hq] at hs; cases hs
    | some q => rw [hq] at hs; exact ⟨q, rfl, by simpa using hs⟩
  unfold execOp
  simp only [ho, hx, hy]
  have h2 : (i : Int) < (n : Int) := by omega
  simp [Instr.indexAt, asIntOf, run_underlying hu, Result.andThen, sizeOf, typeInfo, hinf, hs2, h2, hi]
end
section
variable {P : Program} {o : Oper} {a : Act} {V : World} {K : Act → World → Prop} {Q : Exit → Act → World → Prop}
theorem op_callC {v : Value} {f : FuncId} {caps : Array Value} (t : Tmp) (xs : Array Operand) (args : Array Value) (ho : o.op = .call (callOf o)) (hc : (callOf o).callee = .value (.tmp t)) (hx : (callOf o).args = xs) (hv : a.eval (.tmp t) = .func (.func f) #[] caps) (ha : xs.map a.eval = args)
    (hk : Calls P f (args ++ caps) V fun e w' => e = .returned v ∧ Below V.heap.size V w') (hrun : (callFunc f (args ++ caps)).run P V = .ok (.enter f (args ++ caps)) V) (hK : ∀ V', Below V.heap.size V V' → K (a.put o.dst v) V') : o.wp P a V K Q := by
  have h : (execOp a.eval o).run P V = .ok (.enter f (args ++ caps)) V := by
    unfold execOp
    rw [ho]
    simp only [resolve, hc, hx, hv, Deferred.ofValue, ha, Sem.run_bind, Sem.run_pure, Result.andThen_ok, invoke]
    simp [go_sem, hrun]
  unfold Oper.wp
  rw [h, Oper.upon_enter]
  refine hk.mono ?_
  rintro e w' ⟨rfl, hb⟩
  exact hK w' hb
end
theorem map3N {ev : Operand → Value} {x y z : Operand} {v u t : Value} (h : ev x = v) (h2 : ev y = u) (h3 : ev z = t) : (#[x, y, z] : Array Operand).map ev = #[v, u, t] := by simp [h, h2, h3]
end Go.Proofs.YtjdmhbfddklhnaaDoor
