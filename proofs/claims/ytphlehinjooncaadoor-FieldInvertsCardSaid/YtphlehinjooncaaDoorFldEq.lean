/-
  == and != of two arrays of integers. No conditions.
-/
import Derived.Test.YtphlehinjooncaaDoorFldBlk
import Derived.ChangeKeysEq
set_option linter.unusedVariables false
set_option linter.unusedSimpArgs false
namespace Go.Proofs.YtphlehinjooncaaDoor
open Go Go.Proofs Go.RowKit F5

theorem eqItems_all {P : Program} (d : Nat) (e : TypeId) (k k' : IntKind) (he : P.underlying e = some (.int k')) (hp : P.plainKey e = true) (A B : Array Value) (a b : Nat → Int) (w : World) :
    ∀ is : List Nat, (∀ i ∈ is, A[i]? = some (.int k (a i)) ∧ B[i]? = some (.int k (b i))) → (Op.eqItems (d + 1) e 1 A B is).run P w = .ok (is.all fun i => a i == b i) w
  | [], _ => by simp [Op.eqItems]
  | i :: is, h => by
    obtain ⟨h1, h2⟩ := h i (by simp)
    have p1 := run_part_plain (P := P) w hp (show A[i * 1]? = _ by rw [Nat.mul_one]; exact h1)
    have p2 := run_part_plain (P := P) w hp (show B[i * 1]? = _ by rw [Nat.mul_one]; exact h2)
    have ih := eqItems_all d e k k' he hp A B a b w is (fun j hj => h j (by simp [hj]))
    simp only [Op.eqItems, Sem.run_bind, p1, p2, Result.andThen_ok, run_equalIn_int w d e k k' _ _ he]
    by_cases hab : a i = b i
    · simp [hab, ih]
    · simp [hab]

theorem all_range {n : Nat} {l l' : List Nat} (h : l.length = n) (h' : l'.length = n) : ((List.range n).all fun i => ((l.getD i 0 : Nat) : Int) == ((l'.getD i 0 : Nat) : Int)) = decide (l = l') := by
  rw [Bool.eq_iff_iff, List.all_eq_true, decide_eq_true_eq]
  constructor
  · intro ha
    apply List.ext_getElem?
    intro i
    by_cases hi : i < n
    · have := ha i (List.mem_range.2 hi)
      simp only [beq_iff_eq, Int.natCast_inj, List.getD_eq_getElem?_getD] at this
      rw [List.getElem?_eq_getElem (by omega), List.getElem?_eq_getElem (by omega)] at this ⊢
      simpa using this
    · rw [List.getElem?_eq_none (by omega), List.getElem?_eq_none (by omega)]
  · rintro rfl i _
    simp

theorem run_eql_u64s {T : TypeId} {n : Nat} {i : TypeInfo} (hu : Tryd.prog.underlying T = some (.array n 23)) (l l' : List Nat) (h : l.length = n) (h' : l'.length = n) (w : World) :
    (binOp .eql T (.agg (u64s l)) (.agg (u64s l'))).run Tryd.prog w = .ok (.bool (decide (l = l'))) w := by
  obtain ⟨i0, hi⟩ : ∃ i0, Tryd.prog.info? 23 = some i0 := by
    cases hq : Tryd.prog.info? 23 with
    | none => exact absurd hq (by have : (Tryd.prog.info? 23).isSome = true := by kernel_rfl
                                  intro e; rw [e] at this; cases this)
    | some x => exact ⟨x, rfl⟩
  have hc : Tryd.prog.cellsOf 23 = 1 := by kernel_rfl
  rw [run_eql_struct, run_equalIn_array w 9999 (u64s l) (u64s l') hu hi, hc, eqItems_all 9998 23 .u64 .u64 Tryd.underlying23 (by kernel_rfl) _ _ (fun i => ((l.getD i 0 : Nat) : Int)) (fun i => ((l'.getD i 0 : Nat) : Int)) w _ (fun i hi => by
    have := List.mem_range.1 hi
    exact ⟨u64s_get _ _ (by omega), u64s_get _ _ (by omega)⟩), all_range h h']
  rfl
theorem run_neq_u64s {T : TypeId} {n : Nat} {i : TypeInfo} (hu : Tryd.prog.underlying T = some (.array n 23)) (l l' : List Nat) (h : l.length = n) (h' : l'.length = n) (w : World) :
    (binOp .neq T (.agg (u64s l)) (.agg (u64s l'))).run Tryd.prog w = .ok (.bool (!decide (l = l'))) w := by
  obtain ⟨i0, hi⟩ : ∃ i0, Tryd.prog.info? 23 = some i0 := by
    cases hq : Tryd.prog.info? 23 with
    | none => exact absurd hq (by have : (Tryd.prog.info? 23).isSome = true := by kernel_rfl
                                  intro e; rw [e] at this; cases this)
    | some x => exact ⟨x, rfl⟩
  have hc : Tryd.prog.cellsOf 23 = 1 := by kernel_rfl
  rw [run_neq_struct, run_equalIn_array w 9999 (u64s l) (u64s l') hu hi, hc, eqItems_all 9998 23 .u64 .u64 Tryd.underlying23 (by kernel_rfl) _ _ (fun i => ((l.getD i 0 : Nat) : Int)) (fun i => ((l'.getD i 0 : Nat) : Int)) w _ (fun i hi => by
    have := List.mem_range.1 hi
    exact ⟨u64s_get _ _ (by omega), u64s_get _ _ (by omega)⟩), all_range h h']
  rfl

theorem bytesA_getN (l : List UInt8) (i : Nat) (h : i < l.length) : (bytesA l)[i]? = some (.int .u8 (((l.map UInt8.toNat).getD i 0 : Nat) : Int)) := by
  rw [bytesA_get _ _ h]
  simp [List.getD, List.getElem?_eq_getElem h]
theorem map_toNat_inj {l l' : List UInt8} : l.map UInt8.toNat = l'.map UInt8.toNat ↔ l = l' := by
  constructor
  · intro h
    induction l generalizing l' with
    | nil => cases l' with
      | nil => rfl
      | cons a t => simp at h
    | cons a t ih =>
      cases l' with
      | nil => simp at h
      | cons b t' =>
        simp only [List.map_cons, List.cons.injEq] at h
        rw [ih h.2, UInt8.toNat_inj.1 h.1]
  · rintro rfl; rfl
theorem run_neq_bytes {T : TypeId} {n : Nat} (hu : Tryd.prog.underlying T = some (.array n 5)) (l l' : List UInt8) (h : l.length = n) (h' : l'.length = n) (w : World) :
    (binOp .neq T (.agg (bytesA l)) (.agg (bytesA l'))).run Tryd.prog w = .ok (.bool (!decide (l = l'))) w := by
  obtain ⟨i0, hi⟩ : ∃ i0, Tryd.prog.info? 5 = some i0 := by
    cases hq : Tryd.prog.info? 5 with
    | none => exact absurd hq (by have : (Tryd.prog.info? 5).isSome = true := by kernel_rfl
                                  intro e; rw [e] at this; cases this)
    | some x => exact ⟨x, rfl⟩
  have hc : Tryd.prog.cellsOf 5 = 1 := by kernel_rfl
  rw [run_neq_struct, run_equalIn_array w 9999 (bytesA l) (bytesA l') hu hi, hc, eqItems_all 9998 5 .u8 .u8 Tryd.underlying5 (by kernel_rfl) _ _ (fun i => (((l.map UInt8.toNat).getD i 0 : Nat) : Int)) (fun i => (((l'.map UInt8.toNat).getD i 0 : Nat) : Int)) w _ (fun i hi => by
    have := List.mem_range.1 hi
    exact ⟨bytesA_getN _ _ (by omega), bytesA_getN _ _ (by omega)⟩), all_range (by simpa using h) (by simpa using h')]
  simp only [map_toNat_inj]
  rfl
end Go.Proofs.YtphlehinjooncaaDoor
