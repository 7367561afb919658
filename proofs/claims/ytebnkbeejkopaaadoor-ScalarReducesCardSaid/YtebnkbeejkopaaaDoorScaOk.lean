/-
  What the laws ask of the program's numbers modulo L, as one word; == of 32 bytes by value; slices of them. No conditions.
-/
import Derived.Test.YtebnkbeejkopaaaDoorScaRef5
import Derived.ChangeKeysEq
import Derived.Laws.ResultCell
import Derived.Deep.DeepCutAuto
import Derived.Deep.CutBlock
set_option linter.unusedVariables false
set_option linter.unusedSimpArgs false
namespace Go.Proofs.YtebnkbeejkopaaaDoor
open Go Go.Proofs Go.RowKit F5

theorem eqItems_all {P : Program} (d : Nat) (e : TypeId) (k k' : IntKind) (he : P.underlying e = some (.int k')) (hp : P.plainKey e = true) (A B : Array Value) (a b : Nat → Int) (w : World) :
    ∀ is : List Nat, (∀ i ∈ is, A[i]? = some (.int k (a i)) ∧ B[i]? = some (.int k (b i))) → (Op.eqItems (d + 1) e 1 A B is).run P w = .ok (is.all fun i => a i == b i) w
  | [], _ => by simp [Op.eqItems]
  | i :: is, h => by
    obtain ⟨h1, h2⟩ := h i (by simp)
    have p1 := run_part_plain (P := P) w hp (show A[i * 1]? = _ by rw [Nat.mul_one]; exact h1)
    have p2 := run_part_plain (P := P) w hp (show B[i * 1]? = _ by rw [Nat.mul_one]; exact h2)
    have ih := eqItems_all d e k k' he hp A B a b w is (fun j hj => h j (by simp [hj]))
    simp only [Op.eqItems, Sem.run_bind, p1, p2, Result.andThen_ok, run_equalIn_int w d e k k' _ _ he]
    by_cases hab : a i = b i
    · simp [hab, ih]
    · simp [hab]

theorem all_range {n : Nat} {l l' : List Nat} (h : l.length = n) (h' : l'.length = n) : ((List.range n).all fun i => ((l.getD i 0 : Nat) : Int) == ((l'.getD i 0 : Nat) : Int)) = decide (l = l') := by
  rw [Bool.eq_iff_iff, List.all_eq_true, decide_eq_true_eq]
  constructor
  · intro ha
    apply List.ext_getElem?
    intro i
    by_cases hi : i < n
    · have := ha i (List.mem_range.2 hi)
      simp only [beq_iff_eq, Int.natCast_inj, List.getD_eq_getElem?_getD] at this
      rw [List.getElem?_eq_getElem (by omega), List.getElem?_eq_getElem (by omega)] at this ⊢
      simpa using this
    · rw [List.getElem?_eq_none (by omega), List.getElem?_eq_none (by omega)]
  · rintro rfl i _
    simp

theorem bytesA_getN (l : List UInt8) (i : Nat) (h : i < l.length) : (bytesA l)[i]? = some (.int .u8 (((l.map UInt8.toNat).getD i 0 : Nat) : Int)) := by
  rw [bytesA_get _ _ h]
  simp [List.getD, List.getElem?_eq_getElem h]
theorem map_toNat_inj {l l' : List UInt8} : l.map UInt8.toNat = l'.map UInt8.toNat ↔ l = l' := by
  constructor
  · intro h
    induction l generalizing l' with
    | nil => cases l' with
      | nil => rfl
      | cons a t => simp at h
    | cons a t ih =>
      cases l' with
      | nil => simp at h
      | cons b t' =>
        simp only [List.map_cons, List.cons.injEq] at h
        rw [ih h.2, UInt8.toNat_inj.1 h.1]
  · rintro rfl; rfl
theorem run_eql_bytes {T : TypeId} {n : Nat} (hu : Tryd.prog.underlying T = some (.array n 5)) (l l' : List UInt8) (h : l.length = n) (h' : l'.length = n) (w : World) :
    (binOp .eql T (.agg (bytesA l)) (.agg (bytesA l'))).run Tryd.prog w = .ok (.bool (decide (l = l'))) w := by
  obtain ⟨i0, hi⟩ : ∃ i0, Tryd.prog.info? 5 = some i0 := by
    cases hq : Tryd.prog.info? 5 with
    | none => exact absurd hq (by have : (Tryd.prog.info? 5).isSome = true := by kernel_rfl
                                  intro e; rw [e] at this; cases this)
    | some x => exact ⟨x, rfl⟩
  have hc : Tryd.prog.cellsOf 5 = 1 := by kernel_rfl
  rw [run_eql_struct, run_equalIn_array w 9999 (bytesA l) (bytesA l') hu hi, hc, eqItems_all 9998 5 .u8 .u8 Tryd.underlying5 (by kernel_rfl) _ _ (fun i => (((l.map UInt8.toNat).getD i 0 : Nat) : Int)) (fun i => (((l'.map UInt8.toNat).getD i 0 : Nat) : Int)) w _ (fun i hi => by
    have := List.mem_range.1 hi
    exact ⟨bytesA_getN _ _ (by omega), bytesA_getN _ _ (by omega)⟩), all_range (by simpa using h) (by simpa using h')]
  simp only [map_toNat_inj]
  rfl
theorem quiet_load_row {P : Program} {o : Oper} {ev : Operand → Value} {w : World} (ty : TypeId) (x : Operand)
    (g : Nat) (hx : ev x = .pointer (some ⟨g, 0, none⟩)) (t : TypeId) (cs : Array Value) (d : TypeDesc) (hg : Blk w g t cs)
    (hu : P.underlying ty = some d) (hd : (match d with | .struct _ | .array _ _ => true | _ => false) = true) (hi : (P.info? ty).map (·.size) = some cs.size) (ho : o.op = .load ty x) :
    (execOp ev o).run P w = .ok (.value (.agg cs)) w := by
  unfold execOp
  simp only [ho, hx, Instr.loadAt, Instr.sureAddr, Sem.run_bind, Sem.run_pure, Result.andThen_ok, run_loadVar_row w g t ty cs (0, 0) d hg hu hd hi]
theorem slice32 (g : Nat) (W : World) : (Instr.sliceAt 24 (.pointer (some ⟨g, 0, none⟩)) none none none).run Tryd.prog W = .ok (.slice (some ⟨g, 0, none⟩) 32 32) W := by
  have hal : Tryd.prog.arrayLen 24 = 32 := by kernel_rfl
  have hel : Tryd.prog.elem 24 = 5 := by kernel_rfl
  rw [run_sliceAt_array_all W 24 ⟨g, 0, none⟩ (by rw [hal, hel]; exact Tryd.underlying24), hal, hel, Tryd.sizeOf5]
  rfl
theorem reads_blk {w : World} {g t : Nat} {l : List UInt8} (h : Blk w g t (bytesA l)) : Reads w w.heap.size 1 (some ⟨g, 0, none⟩) l.length (Lib.byteCells l) := by
  refine ⟨by simp [Lib.byteCells_length], fun _ => ⟨_, rfl, h.lt, fun j u hj => ?_⟩⟩
  have e : (⟨g, 0, none⟩ : Addr).add j = ⟨g, j, none⟩ := by unfold Addr.add; split <;> simp_all
  rw [e, h.cell, bytesA, List.getElem?_toArray]
  exact hj

theorem quiet_eql_bytes {o : Oper} {ev : Operand → Value} (w : World) (x y : Operand) (k : TypeId) (l l' : List UInt8) (hl : l.length = 32) (hl' : l'.length = 32) (hx : ev x = .agg (bytesA l)) (hy : ev y = .agg (bytesA l'))
    (ho : o.op = .binOp .eql 24 x y k) : (execOp ev o).run Tryd.prog w = .ok (.value (.bool (decide (l = l')))) w := by
  have hg : (eqGuard .eql 24 x y (.agg (bytesA l)) (.agg (bytesA l'))).run Tryd.prog w = .ok () w := run_eqGuard_agg w .eql _ x y _ _ (by kernel_rfl)
  unfold execOp
  simp only [ho, hx, hy, Sem.run_bind, hg, Result.andThen_ok, run_eql_bytes Tryd.underlying24 l l' hl hl' w, Sem.run_pure]
theorem quiet_eqb_bytes {o : Oper} {ev : Operand → Value} (w : World) (x y : Operand) (k : TypeId) (l l' : List UInt8) (b : Bool) (hb : decide (l = l') = b) (hl : l.length = 32) (hl' : l'.length = 32) (hx : ev x = .agg (bytesA l)) (hy : ev y = .agg (bytesA l'))
    (ho : o.op = .binOp .eql 24 x y k) : (execOp ev o).run Tryd.prog w = .ok (.value (.bool b)) w := by
  rw [← hb]; exact quiet_eql_bytes w x y k l l' hl hl' hx hy ho
theorem wpList_eql_bytes {ops : Array Oper} {rest : List Oper} {o : Oper} {a : Act} {w : World} {Q : Exit → Act → World → Prop} (hgd : o.guard = none) (x y : Operand) (k : TypeId) (l l' : List UInt8) (hl : l.length = 32) (hl' : l'.length = 32)
    (hx : a.eval x = .agg (bytesA l)) (hy : a.eval y = .agg (bytesA l')) (ho : o.op = .binOp .eql 24 x y k) (h : wpList Tryd.prog ops Q rest (a.put o.dst (.bool (decide (l = l')))) w) : wpList Tryd.prog ops Q (o :: rest) a w :=
  wpList_plain hgd fun _ hK => by
    have hg : (eqGuard .eql 24 x y (.agg (bytesA l)) (.agg (bytesA l'))).run Tryd.prog w = .ok () w := run_eqGuard_agg w .eql _ x y _ _ (by kernel_rfl)
    unfold Oper.wp execOp
    simp only [ho, hx, hy, Sem.run_bind, hg, Result.andThen_ok, run_eql_bytes Tryd.underlying24 l l' hl hl' w, Sem.run_pure]
    exact hK _ _ h
theorem alloc_new {B : Nat} {w w' : World} (h : Below B w w') (T : TypeId) (z : Array Value) : Blk (w'.alloc (.cells z T)) w'.heap.size T z := Blk.new _ _ _
theorem alloc_new2 {B : Nat} {w w' : World} {o : Obj} (h : Below B w (w'.alloc o)) (T : TypeId) (z : Array Value) : Blk ((w'.alloc o).alloc (.cells z T)) (w'.heap.size + 1) T z := by
  have := Blk.new (w'.alloc o) T z
  rwa [show (w'.alloc o).heap.size = w'.heap.size + 1 by simp] at this
theorem alloc_size2 {B : Nat} {w w' : World} {o : Obj} (h : Below B w (w'.alloc o)) : w.heap.size ≤ w'.heap.size + 1 := by
  have := h.size
  rwa [show (w'.alloc o).heap.size = w'.heap.size + 1 by simp] at this
theorem blk_ne2 {w : World} {o : Obj} {g t : Nat} {c : Array Value} (h : Blk (w.alloc o) g t c) : g ≠ w.heap.size + 1 := by
  have := h.lt
  rw [show (w.alloc o).heap.size = w.heap.size + 1 by simp] at this
  omega
theorem wpList_build_to {P : Program} {ops : Array Oper} {rest : List Oper} {o : Oper} {a : Act} {w : World} {Q : Exit → Act → World → Prop} (hg : o.guard = none) (t : TypeId) (parts : Array (Nat × Operand)) (ho : o.op = .build t parts)
    (vals : List (Nat × Value)) (hv : (parts.map fun (i, x) => (i, a.eval x)).toList = vals) (cells : Array Value) (hb : P.built t vals = some cells) (h : wpList P ops Q rest (a.put o.dst (.agg cells)) w) : wpList P ops Q (o :: rest) a w :=
  wpList_build hg t parts ho (by rw [hv, hb]; rfl) (by rw [hv, hb]; exact h)

theorem built_one : Tryd.prog.built 24 [(0, .int .u8 1)] = some (bytesA (1 :: List.replicate 31 0)) := by kernel_rfl
theorem built_nil : Tryd.prog.built 24 [] = some (bytesA (List.replicate 32 0)) := by kernel_rfl
theorem info32s : (Tryd.prog.info? 24).map (·.size) = some 32 := by kernel_rfl
theorem fbytes_info (n : Nat) : (Tryd.prog.info? 24).map (·.size) = some (bytesA (fbytes n)).size := by rw [bytesA_size, fbytes_length]; exact info32s
theorem fbytes_ok (n : Nat) : (Tryd.prog.info? 24).map (·.size) = some (bytesA (fbytes n)).size ∧ (bytesA (fbytes n)).all (·.oneCell') = true ∧ (bytesA (fbytes 0)).size = (bytesA (fbytes n)).size :=
  ⟨fbytes_info n, bytesA_one _, by rw [bytesA_size, bytesA_size, fbytes_length, fbytes_length]⟩
theorem fbytes_zero : fbytes 0 = List.replicate 32 0 := by decide +kernel

/-- The program's numbers modulo L are as they must be, in worlds of a kind that calls keep. -/
structure ScaOk (Q : World → Prop) : Prop where
  old : ∀ {w w' : World}, Q w → Below w.heap.size w w' → Q w'
  reduce : ∀ (A : Option Addr) (n c : Nat) (l : List UInt8) (w : World), n ≤ 1000 → n ≤ c → c ≤ maxLen → Reads w w.heap.size 1 A n (Lib.byteCells l) → Q w →
    Calls Tryd.prog 8 #[.slice A n c] w fun e w' => e = .returned (.agg (bytesA (fbytes (bval l % LL)))) ∧ Below w.heap.size w w'
  may : ∀ (A : Option Addr) (n c : Nat) (l : List UInt8) (w : World), n ≤ 1000 → n ≤ c → c ≤ maxLen → Reads w w.heap.size 1 A n (Lib.byteCells l) → Q w →
    Calls Tryd.prog 10 #[.slice A n c] w fun e w' => e = .returned (.bool (mayB l)) ∧ Below w.heap.size w w'
  muladd : ∀ (a b c : Nat) (w : World), a < 2 ^ 256 → b < 2 ^ 256 → c < 2 ^ 256 → Q w →
    Calls Tryd.prog 12 #[.agg (bytesA (fbytes a)), .agg (bytesA (fbytes b)), .agg (bytesA (fbytes c))] w fun e w' => e = .returned (.agg (bytesA (fbytes ((a * b + c) % LL)))) ∧ Below w.heap.size w w'
end Go.Proofs.YtebnkbeejkopaaaDoor
