/-
  Words for blocks and for single operations, and the theorem on regions of known relations, without any package's own words. Conditions: each operation's own contract.
-/
import Derived.Test.YtjdmhbfddklhnaaDoorWords
import Derived.Test.YtjdmhbfddklhnaaDoorSch2
import Derived.Great.BuildSlice
import Derived.Deep.WholeRow
import Derived.WalkMore
import Derived.WalkKit
import Derived.IntWalk
import Derived.Lib.Hide
set_option linter.unusedVariables false
set_option linter.unusedSimpArgs false
namespace Go.Proofs.YtjdmhbfddklhnaaDoor
open Go Go.Proofs Go.RowKit

def Blk (w : World) (g : Nat) (t : TypeId) (cs : Array Value) : Prop := w.heap[g]? = some (.cells cs t (0, 0))

section
variable {w w' : World} {g : Nat} {t : TypeId} {cs : Array Value}
theorem Blk.lt (h : Blk w g t cs) : g < w.heap.size := by
  rcases Nat.lt_or_ge g w.heap.size with hlt | hge
  · exact hlt
  · unfold Blk at h; rw [Array.getElem?_eq_none hge] at h; cases h
theorem Blk.cell (h : Blk w g t cs) (i : Nat) : w.cell? ⟨g, i, none⟩ = cs[i]? := cell_of_row w g i cs t (0, 0) h
theorem Blk.frozen (h : Blk w g t cs) (i : Nat) : w.frozen? ⟨g, i, none⟩ = false := by
  unfold Blk at h
  simp [World.frozen?, h]
theorem Blk.new (w : World) (t : TypeId) (cs : Array Value) : Blk (w.alloc (.cells cs t)) w.heap.size t cs := heap_alloc_new w _
theorem Blk.drew (h : Blk w g t cs) : Blk w.drew g t cs := h
theorem Blk.drewN (h : Blk w g t cs) (n : Nat) : Blk (w.drewN n) g t cs := h
theorem Blk.alloc (h : Blk w g t cs) (o : Obj) : Blk (w.alloc o) g t cs := (Below.heap_alloc w o g h.lt).trans h
theorem Blk.set_ (h : Blk w g t cs) (i : Nat) (u : Value) : Blk (w.setCell ⟨g, i, none⟩ u) g t (cs.setIfInBounds i u) := by
  unfold Blk at h ⊢
  simp [World.setCell, Array.getElem?_modify, h]
theorem Blk.far (h : Blk w g t cs) {p : Addr} (hp : g ≠ p.block) (u : Value) : Blk (w.setCell p u) g t cs := (Below.heap_setCell w p u g hp).trans h
theorem Blk.below {B : Nat} (h : Blk w g t cs) (hb : Below B w w') (hg : g < B) : Blk w' g t cs := (hb.block g hg).trans h
theorem Blk.grown {row : Option Nat} (h : Blk w g t cs) (hb : w.grownBy w' row) (hg : some g ≠ row) : Blk w' g t cs := (hb.block g h.lt hg).trans h
theorem Blk.ne_ {g' : Nat} {t' : TypeId} {cs' : Array Value} (h : Blk w g t cs) (h' : Blk w g' t' cs') (hne : t ≠ t') : g ≠ g' := by
  rintro rfl
  unfold Blk at h h'
  rw [h] at h'
  injection h' with h'
  injection h' with _ ht
  exact hne ht
end
theorem Blk.old {w w' : World} {g t : Nat} {cs : Array Value} (h : Blk w g t cs) (hb : Below w.heap.size w w') : Blk w' g t cs := h.below hb h.lt

theorem Blk.row {w : World} {g t : Nat} {c : Array Value} (h : Blk w g t c) (c' : Array Value) : Blk (w.setRow g c') g t c' := setRow_heap w g c c' t (0, 0) h
theorem Blk.rowFar {w : World} {g g' t : Nat} {c : Array Value} (h : Blk w g t c) (hne : g ≠ g') (c' : Array Value) : Blk (w.setRow g' c') g t c := (setRow_other w g' g c' hne).trans h
theorem below_row {B : Nat} {w w' : World} (h : Below B w w') {g : Nat} (hg : B ≤ g) (c : Array Value) : Below B w (w'.setRow g c) :=
  ⟨h.os, h.tape, h.output, by simp; exact h.size, fun k hk => (setRow_other w' g k c (by omega)).trans (h.block k hk)⟩
theorem quiet_load_row {P : Program} {o : Oper} {ev : Operand → Value} {w : World} (ty : TypeId) (x : Operand)
    (g : Nat) (hx : ev x = .pointer (some ⟨g, 0, none⟩)) (t : TypeId) (cs : Array Value) (d : TypeDesc) (hg : Blk w g t cs)
    (hu : P.underlying ty = some d) (hd : (match d with | .struct _ | .array _ _ => true | _ => false) = true) (hi : (P.info? ty).map (·.size) = some cs.size) (ho : o.op = .load ty x) :
    (execOp ev o).run P w = .ok (.value (.agg cs)) w := by
  unfold execOp
  simp only [ho, hx, Instr.loadAt, Instr.sureAddr, Sem.run_bind, Sem.run_pure, Result.andThen_ok, run_loadVar_row w g t ty cs (0, 0) d hg hu hd hi]
theorem step_of_wp {P : Program} {ops : Array Oper} {o : Oper} {a : Act} {K : Act → World → Prop} {Q : Exit → Act → World → Prop} {E : Prop} {w : World} (hgd : o.guard = none) (h : Oper.wp P o a w K Q) :
    if Region.wanted o (yielded ops a.tmps) = true then Oper.wp P o a w K Q else E := by
  have hw : Region.wanted o (yielded ops a.tmps) = true := by simp [Region.wanted, hgd]
  rw [if_pos hw]
  exact h
section
variable {P : Program} {ops : Array Oper}
/-- Whether a guard lets this value pass. -/
def passes (want : Bool) : Value → Bool
  | .bool b => b == want
  | _ => false
theorem wanted_of {a : Act} {o : Oper} {j d : Nat} {want : Bool} {u : Value} (hg : o.guard = some (j, want)) (hd : Sch.dstOf ops j = some d) (h : a.tmps.getD d undef = u) : Region.wanted o (yielded ops a.tmps) = passes want u := by
  unfold Region.wanted
  rw [hg]
  have e : yielded ops a.tmps j = match (some d).bind (a.tmps[·]?) with | some (.bool b) => some b | _ => none := by
    unfold yielded
    unfold Sch.dstOf at hd
    rw [hd]
    rfl
  simp only [e, Option.bind_some]
  rw [Array.getD_eq_getD_getElem?] at h
  cases hx : a.tmps[d]? with
  | none => rw [hx] at h; subst h; simp [passes, undef]
  | some x =>
    rw [hx] at h; simp only [Option.getD_some] at h; subst h
    cases x <;> simp [passes]
end
/-! The contracts of single operations. -/
section
variable {P : Program} {o : Oper} {a : Act} {V : World} {K : Act → World → Prop} {Q : Exit → Act → World → Prop}
theorem op_quiet {v : Value} (h : (execOp a.eval o).run P V = .ok (.value v) V) (hK : ∀ V', Below V.heap.size V V' → K (a.put o.dst v) V') : o.wp P a V K Q := by
  unfold Oper.wp
  rw [h, Oper.upon_value]
  exact hK V (Below.refl _ _)
theorem op_call {v : Value} {f : FuncId} {c : Call} (args : Array Value) (ho : o.op = .call c) (hc : c.callee = .value (.func f)) (ha : c.args.map a.eval = args)
    (hk : Calls P f args V fun e w' => e = .returned v ∧ Below V.heap.size V w') (hrun : (callFunc f args).run P V = .ok (.enter f args) V) (hK : ∀ V', Below V.heap.size V V' → K (a.put o.dst v) V') : o.wp P a V K Q := by
  have h : (execOp a.eval o).run P V = .ok (.enter f args) V := by
    unfold execOp
    simp only [ho, resolve, hc, Act.eval, Deferred.ofValue, ha, Sem.run_bind, Sem.run_pure, Result.andThen_ok, invoke]
    simp [go_sem, hrun]
  unfold Oper.wp
  rw [h, Oper.upon_enter]
  refine hk.mono ?_
  rintro e w' ⟨rfl, hb⟩
  exact hK w' hb
end
def callOf (o : Oper) : Call := match o.op with | .call c => c | _ => { callee := .builtin .len, args := #[], argTypes := #[] }
section
variable {P : Program} {o : Oper} {a : Act} {V : World} {K : Act → World → Prop} {Q : Exit → Act → World → Prop} {ev : Operand → Value}
theorem map0 : (#[] : Array Operand).map ev = #[] := by simp
theorem map1 {x : Operand} {v : Value} (h : ev x = v) : (#[x] : Array Operand).map ev = #[v] := by simp [h]
theorem map2 {x y : Operand} {v u : Value} (h : ev x = v) (h2 : ev y = u) : (#[x, y] : Array Operand).map ev = #[v, u] := by simp [h, h2]
theorem op_callK {v : Value} {f : FuncId} (xs : Array Operand) (args : Array Value) (ho : o.op = .call (callOf o)) (hc : (callOf o).callee = .value (.func f)) (hx : (callOf o).args = xs) (ha : xs.map a.eval = args)
    (hk : Calls P f args V fun e w' => e = .returned v ∧ Below V.heap.size V w') (hrun : (callFunc f args).run P V = .ok (.enter f args) V) (hK : ∀ V', Below V.heap.size V V' → K (a.put o.dst v) V') : o.wp P a V K Q :=
  op_call args ho hc (by rw [hx]; exact ha) hk hrun hK
theorem bld0 : ((#[] : Array (Nat × Operand)).map fun (i, x) => (i, ev x)).toList = [] := by simp
theorem bld1 {a : Nat} {x : Operand} {v : Value} (h : ev x = v) : ((#[(a, x)] : Array (Nat × Operand)).map fun (i, x) => (i, ev x)).toList = [(a, v)] := by simp [h]
theorem bld2 {a b : Nat} {x y : Operand} {v u : Value} (h : ev x = v) (h2 : ev y = u) : ((#[(a, x), (b, y)] : Array (Nat × Operand)).map fun (i, x) => (i, ev x)).toList = [(a, v), (b, u)] := by simp [h, h2]
theorem bld3 {a b c : Nat} {x y z : Operand} {v u t : Value} (h : ev x = v) (h2 : ev y = u) (h3 : ev z = t) : ((#[(a, x), (b, y), (c, z)] : Array (Nat × Operand)).map fun (i, x) => (i, ev x)).toList = [(a, v), (b, u), (c, t)] := by simp [h, h2, h3]
theorem quiet_move {v : Value} (x : Operand) (hx : ev x = v) (ho : o.op = .move x ∨ o.op = .assign x) : (execOp ev o).run P V = .ok (.value v) V := by
  unfold execOp
  rcases ho with ho | ho <;> simp only [ho, hx, Sem.run_pure]
theorem tail_nil {ops : Array Oper} (h : Q .normal a V) : wpList P ops Q [] a V := h
theorem quiet_pickT {v : Value} (c x y : Operand) (hc : ev c = .bool true) (hx : ev x = v) (ho : o.op = .pick c x y) : (execOp ev o).run P V = .ok (.value v) V := by
  unfold execOp
  simp only [ho, hc, asBool, Sem.run_bind, Sem.run_pure, Result.andThen_ok, hx, if_true]
theorem quiet_pickF {v : Value} (c x y : Operand) (hc : ev c = .bool false) (hy : ev y = v) (ho : o.op = .pick c x y) : (execOp ev o).run P V = .ok (.value v) V := by
  unfold execOp
  simp only [ho, hc, asBool, Sem.run_bind, Sem.run_pure, Result.andThen_ok, hy]
  rfl
theorem quiet_not {b : Bool} (t : TypeId) (x : Operand) (hx : ev x = .bool b) (ho : o.op = .unOp .not t x) : (execOp ev o).run P V = .ok (.value (.bool (!b))) V := by
  unfold execOp
  simp only [ho, hx]
  simp [go_sem]
theorem quiet_extract {t : Array Value} {v : Value} (x : Operand) (k : Nat) (hx : ev x = .tuple t) (hv : t[k]? = some v) (ho : o.op = .extract x k) : (execOp ev o).run P V = .ok (.value v) V := by
  unfold execOp
  simp only [ho, hx, Instr.extract, Sem.run_bind, hv, Sem.run_pure, Result.andThen_ok]
end
end Go.Proofs.YtjdmhbfddklhnaaDoor
namespace Go.Proofs.YtjdmhbfddklhnaaDoor.Sch
open Go Go.Proofs Go.RowKit

/-- What is known of a value, and stays so when calls keep what was there. -/
inductive Rk where
  | is (p : Value → World → Prop) (hk : ∀ v V V', p v V → Below V.heap.size V V' → p v V')
  | fresh (T : TypeId) (z : Array Value)
def Rk.rel : Rk → Value → World → Prop
  | .is p _ => p
  | .fresh T z => fun v V => ∃ g, v = .pointer (some ⟨g, 0, none⟩) ∧ Blk V g T z
def Rk.new : Rk → Bool
  | .is _ _ => false
  | .fresh _ _ => true
/-- Just this value. -/
def Rk.val (u : Value) : Rk := .is (fun v _ => v = u) (fun _ _ _ h _ => h)
/-- A value of this kind, whatever the world. -/
def Rk.say (p : Value → Prop) : Rk := .is (fun v _ => p v) (fun _ _ _ h _ => h)
theorem Rk.keep (r : Rk) {v : Value} {V V' : World} (h : r.rel v V) (hb : Below V.heap.size V V') : r.rel v V' := by
  cases r with
  | is p hk => exact hk v V V' h hb
  | fresh T z => obtain ⟨g, e, hB⟩ := h; exact ⟨g, e, hB.old hb⟩
def relOf (PL : List Rk) (i : Nat) (v : Value) (V : World) : Prop := match PL[i]? with | some r => r.rel v V | none => False
def planR (PL : List Rk) : Plan := { Fr := fun u v => Below u.heap.size u v, R := fun i _ v V => relOf PL i v V, fresh := fun i => match PL[i]? with | some r => r.new | none => false }
theorem relOf_at {PL : List Rk} {i : Nat} {r : Rk} (h : PL[i]? = some r) {v : Value} {V : World} : relOf PL i v V ↔ r.rel v V := by unfold relOf; rw [h]
theorem planR_laws (PL : List Rk) : Laws (planR PL) where
  refl _ := Below.refl _ _
  trans h1 h2 := Below.trans h1 (Below.mono h2 h1.size)
  drew _ := (Below.refl _ _).drew
  size h := h.size
  keep {i x v V V'} h hb := by
    show relOf PL i v V'
    have h : relOf PL i v V := h
    unfold relOf at h ⊢
    cases hr : PL[i]? with
    | none => rw [hr] at h; exact h
    | some r => rw [hr] at h; exact r.keep h hb
def GoodsR (P : Program) (ops : Array Oper) (m : Nat) (a0 : Act) (w0 : World) (PL : List Rk) : Nat → List Rk → Prop
  | _, [] => True
  | k, _ :: r => Good P ops m a0 w0 (planR PL) k ∧ GoodsR P ops m a0 w0 PL (k + 1) r
section
variable {P : Program} {ops : Array Oper} {m : Nat} {a0 : Act} {w0 : World} {PL : List Rk} {k : Nat} {r : List Rk}
theorem goodsR_at : ∀ (l : List Rk) (k : Nat), GoodsR P ops m a0 w0 PL k l → ∀ i, i < l.length → Good P ops m a0 w0 (planR PL) (k + i)
  | [], _, _, i, h => absurd h (Nat.not_lt_zero _)
  | q :: r, k, hg, 0, h => hg.1
  | q :: r, k, hg, i + 1, h => by
    have := goodsR_at r (k + 1) hg.2 i (by simpa using h)
    rwa [show k + 1 + i = k + (i + 1) by omega] at this
theorem gr_nil : GoodsR P ops m a0 w0 PL k [] := trivial
/-- What an operation of the first part may rest on. -/
structure Here (ops : Array Oper) (m : Nat) (a0 : Act) (w0 : World) (PL : List Rk) (k : Nat) (a : Act) (V : World) : Prop where
  still : ∀ t, still ops m t = true → tm a t = tm a0 t
  frame : Below w0.heap.size w0 V
  got : ∀ j ∈ pre ops k, relOf PL j (at_ ops a j) V
theorem Here.old {a : Act} {V : World} (h : Here ops m a0 w0 PL k a V) (t : Tmp) {v : Value} (h1 : Sch.still ops m t = true) (h2 : tm a0 t = v) : a.eval (.tmp t) = v := (h.still t h1).trans h2
theorem Here.rel {a : Act} {V : World} (h : Here ops m a0 w0 PL k a V) (j : Nat) (t : Tmp) {q : Rk} (h1 : (pre ops k).contains j = true) (h2 : dstOf ops j = some t) (h3 : PL[j]? = some q) : q.rel (a.eval (.tmp t)) V := by
  have := h.got j (by simpa using h1)
  rw [relOf_at h3] at this
  have e : at_ ops a j = a.eval (.tmp t) := by unfold at_; rw [h2]; rfl
  rwa [e] at this
theorem gr_is {p : Value → World → Prop} {hk : ∀ v V V', p v V → Below V.heap.size V V' → p v V'} (hPL : PL[k]? = some (.is p hk)) (hgd : (opA ops k).guard = none)
    (h : ∀ (a : Act) (V : World), Here ops m a0 w0 PL k a V → ∀ (K : Act → World → Prop) (Q : Exit → Act → World → Prop),
      (∀ v V', Below V.heap.size V V' → p v V' → K (a.put (opA ops k).dst v) V') → (opA ops k).wp P a V K Q) (hr : GoodsR P ops m a0 w0 PL (k + 1) r) : GoodsR P ops m a0 w0 PL k (.is p hk :: r) :=
  ⟨fun a V h1 h2 h3 => .inl ⟨by unfold Region.wanted; rw [hgd], fun K Q hK => h a V ⟨h1, h2, fun j hj => h3 j hj⟩ K Q fun v V' hb hp => hK v V' hb ((relOf_at hPL).2 hp) (fun hf => by
    exfalso
    have e : (planR PL).fresh k = false := by show (match PL[k]? with | some r => r.new | none => false) = false; rw [hPL]; rfl
    rw [e] at hf; cases hf)⟩, hr⟩
theorem gr_val {u : Value} (hPL : PL[k]? = some (.val u)) (hgd : (opA ops k).guard = none)
    (h : ∀ (a : Act) (V : World), Here ops m a0 w0 PL k a V → ∀ (K : Act → World → Prop) (Q : Exit → Act → World → Prop),
      (∀ V', Below V.heap.size V V' → K (a.put (opA ops k).dst u) V') → (opA ops k).wp P a V K Q) (hr : GoodsR P ops m a0 w0 PL (k + 1) r) : GoodsR P ops m a0 w0 PL k (.val u :: r) :=
  gr_is hPL hgd (fun a V H K Q hK => h a V H K Q fun V' hb => hK u V' hb rfl) hr
theorem gr_fresh {T : TypeId} {z : Array Value} (hPL : PL[k]? = some (.fresh T z)) (h1 : (ops[k]?).map (fun o => (o.op, o.guard)) = some (.alloc T, none)) (h2 : ∀ W, (zeroValue T).run P W = .ok (.agg z) W) (hr : GoodsR P ops m a0 w0 PL (k + 1) r) :
    GoodsR P ops m a0 w0 PL k (.fresh T z :: r) := by
  refine ⟨fun a V _ _ _ => .inl ?_, hr⟩
  cases ho : ops[k]? with
  | none => rw [ho] at h1; simp at h1
  | some o =>
    rw [ho] at h1
    simp only [Option.map_some, Option.some.injEq, Prod.mk.injEq] at h1
    rw [opA_of ho]
    refine ⟨by unfold Region.wanted; rw [h1.2], fun K Q hK => ?_⟩
    have hrun : (execOp a.eval o).run P V = .ok (.value (.pointer (some ⟨V.heap.size, 0, none⟩))) (V.alloc (.cells z T)) := by
      unfold execOp
      simp only [h1.1, Instr.alloc, Sem.run_bind, h2, Result.andThen_ok, Sem.run_pure]
      rfl
    unfold Oper.wp
    rw [hrun, Oper.upon_value]
    exact hK _ _ ((Below.refl _ _).alloc (Nat.le_refl _) _) ((relOf_at hPL).2 ⟨_, rfl, Blk.new V T z⟩) (fun _ => ⟨_, rfl, Nat.le_refl _, by simp⟩)
/-- What is known behind the first part. -/
structure FinR (PL : List Rk) (x : Nat → Value) (w0 V : World) : Prop where
  rel : ∀ i (r : Rk), PL[i]? = some r → r.rel (x i) V
  new : ∀ i T z, PL[i]? = some (.fresh T z) → ∃ g, x i = .pointer (some ⟨g, 0, none⟩) ∧ w0.heap.size ≤ g ∧ Blk V g T z
  apart : ∀ i j T z T' z', PL[i]? = some (.fresh T z) → PL[j]? = some (.fresh T' z') → i ≠ j → x i ≠ x j
  frame : Below w0.heap.size w0 V
theorem wp_R {Q : Exit → Act → World → Prop} {id : Nat} {draw : Bool} (D : List Tmp) (PL : List Rk) (hl : PL.length = D.length) (hm : P.follows .mixedOrders = true) (hc : chk ops D.length a0.tmps.size = true) (hd : chkD ops 0 D = true) (hq : (!draw || (cloB ops D.length && seqd ops D.length)) = true)
    (hg : GoodsR P ops D.length a0 w0 PL 0 PL) (tl : List Oper) (ht : ops.toList.drop D.length = tl)
    (hfin : ∀ (x : Nat → Value) (V : World), FinR PL x w0 V → wpList P ops Q tl ⟨finL x 0 D a0.tmps, a0.defers⟩ V) : (Code.region id ops draw).wp P Q a0 w0 := by
  refine wp_sch (planR PL) D (planR_laws PL) hm hc hd hq (fun k hk => ?_) tl ht fun x V hF => hfin x V ⟨fun i r hr => ?_, fun i T z hr => ?_, fun i j T z T' z' hi hj hne => ?_, hF.frame⟩
  · have := goodsR_at PL 0 hg k (by omega)
    rwa [Nat.zero_add] at this
  · have hi : i < D.length := by rw [← hl]; exact (List.getElem?_eq_some_iff.1 hr).1
    exact (relOf_at hr).1 (hF.rel i hi)
  · have hi : i < D.length := by rw [← hl]; exact (List.getElem?_eq_some_iff.1 hr).1
    obtain ⟨g, e, h1, h2⟩ := hF.new i hi (by show (match PL[i]? with | some r => r.new | none => false) = true; rw [hr]; rfl)
    obtain ⟨g', e', hB⟩ := (relOf_at hr).1 (hF.rel i hi)
    rw [e] at e'
    injection e' with e'
    injection e' with e'
    injection e' with e'
    subst e'
    exact ⟨g, e, h1, hB⟩
  · have ni : i < D.length := by rw [← hl]; exact (List.getElem?_eq_some_iff.1 hi).1
    have nj : j < D.length := by rw [← hl]; exact (List.getElem?_eq_some_iff.1 hj).1
    exact hF.apart i j ni nj (by show (match PL[i]? with | some r => r.new | none => false) = true; rw [hi]; rfl) (by show (match PL[j]? with | some r => r.new | none => false) = true; rw [hj]; rfl) hne
end
section
variable {P : Program} {o : Oper} {a : Act} {V : World} {K : Act → World → Prop} {Q : Exit → Act → World → Prop}
/-- A call of which just something is known. -/
theorem op_callR {f : FuncId} {p : Value → World → Prop} (xs : Array Operand) (args : Array Value) (ho : o.op = .call (callOf o)) (hc : (callOf o).callee = .value (.func f)) (hx : (callOf o).args = xs) (ha : xs.map a.eval = args)
    (hk : Calls P f args V fun e w' => ∃ v, e = .returned v ∧ p v w' ∧ Below V.heap.size V w') (hrun : (callFunc f args).run P V = .ok (.enter f args) V) (hK : ∀ v V', Below V.heap.size V V' → p v V' → K (a.put o.dst v) V') : o.wp P a V K Q := by
  have h : (execOp a.eval o).run P V = .ok (.enter f args) V := by
    unfold execOp
    rw [ho]
    simp only [resolve, hc, hx, Act.eval, Deferred.ofValue, ha, Sem.run_bind, Sem.run_pure, Result.andThen_ok, invoke]
    simp [go_sem, hrun]
  unfold Oper.wp
  rw [h, Oper.upon_enter]
  refine hk.mono ?_
  rintro e w' ⟨v, rfl, hp, hb⟩
  exact hK v w' hb hp
end
end Go.Proofs.YtjdmhbfddklhnaaDoor.Sch
namespace Go.Proofs.YtjdmhbfddklhnaaDoor.Sch
open Go Go.Proofs Go.RowKit
section
variable {P : Program} {ops : Array Oper} {m : Nat} {a0 : Act} {w0 : World} {PL : List Rk} {k : Nat} {r : List Rk}
theorem gr_on {p : Value → World → Prop} {hk : ∀ v V V', p v V → Below V.heap.size V V' → p v V'} {j d : Nat} {want : Bool} {u : Value} (hPL : PL[k]? = some (.is p hk)) (hgd : (opA ops k).guard = some (j, want)) (hd : dstOf ops j = some d)
    (hv : ∀ (a : Act) (V : World), Here ops m a0 w0 PL k a V → a.eval (.tmp d) = u) (hp : passes want u = true)
    (h : ∀ (a : Act) (V : World), Here ops m a0 w0 PL k a V → ∀ (K : Act → World → Prop) (Q : Exit → Act → World → Prop),
      (∀ v V', Below V.heap.size V V' → p v V' → K (a.put (opA ops k).dst v) V') → (opA ops k).wp P a V K Q) (hr : GoodsR P ops m a0 w0 PL (k + 1) r) : GoodsR P ops m a0 w0 PL k (.is p hk :: r) :=
  ⟨fun a V h1 h2 h3 => .inl ⟨by
      rw [wanted_of hgd hd (hv a V ⟨h1, h2, fun j hj => h3 j hj⟩)]; exact hp, fun K Q hK => h a V ⟨h1, h2, fun j hj => h3 j hj⟩ K Q fun v V' hb hp => hK v V' hb ((relOf_at hPL).2 hp) (fun hf => by
    exfalso
    have e : (planR PL).fresh k = false := by show (match PL[k]? with | some r => r.new | none => false) = false; rw [hPL]; rfl
    rw [e] at hf; cases hf)⟩, hr⟩
theorem gr_onV {w : Value} {j d : Nat} {want : Bool} {u : Value} (hPL : PL[k]? = some (.val w)) (hgd : (opA ops k).guard = some (j, want)) (hd : dstOf ops j = some d)
    (hv : ∀ (a : Act) (V : World), Here ops m a0 w0 PL k a V → a.eval (.tmp d) = u) (hp : passes want u = true)
    (h : ∀ (a : Act) (V : World), Here ops m a0 w0 PL k a V → ∀ (K : Act → World → Prop) (Q : Exit → Act → World → Prop),
      (∀ V', Below V.heap.size V V' → K (a.put (opA ops k).dst w) V') → (opA ops k).wp P a V K Q) (hr : GoodsR P ops m a0 w0 PL (k + 1) r) : GoodsR P ops m a0 w0 PL k (.val w :: r) :=
  gr_on hPL hgd hd hv hp (fun a V H K Q hK => h a V H K Q fun V' hb => hK w V' hb rfl) hr
end
end Go.Proofs.YtjdmhbfddklhnaaDoor.Sch
