/-
  An argument of 32 bytes, as an array: what is read of it. No conditions.
-/
import Derived.Test.YtebnkbeejkopaaaDoorScaOk
import Derived.WideKeyArr2
set_option linter.unusedVariables false
namespace Go.Proofs.YtebnkbeejkopaaaDoor
open Go Go.Proofs Go.RowKit Go.ChangeShapes Go.WideShapes F5

section
variable {H : Type} {enc : TypeId × Value → H} {P : Program} {e : TypeId} {q : IntKind} {W : World} {base : Nat} {sp : Nat → Bool} {held : Bool}
theorem mapM_ints (he : P.underlying e = some (.int q)) {m : Nat} {cs : List Value} : ∀ (L : List Nat) (xs : List (DataW H × List MemPlace)),
    L.mapM (fun i => DataW.trod enc P W base sp held m e ((cs.drop (i * 1)).take 1)) = some xs →
    (∀ i ∈ L, ∃ a, (cs.drop i).take 1 = [.int q a] ∧ (Lit.int q a).wf = true) ∧ xs.flatMap (·.2) = []
  | [], xs, h => by
    simp at h
    subst h
    exact ⟨fun i hi => by simp at hi, rfl⟩
  | i :: L, xs, h => by
    rw [List.mapM_cons] at h
    simp only [bind, Option.bind_eq_some_iff, pure, Option.some.injEq] at h
    obtain ⟨y, hy, ys, hys, rfl⟩ := h
    obtain ⟨h1, h2⟩ := mapM_ints he L ys hys
    obtain ⟨a, ea, rfl, wa⟩ := DataW.trod_int he hy
    refine ⟨fun j hj => ?_, by simpa using h2⟩
    rcases List.mem_cons.1 hj with rfl | hj
    · exact ⟨a, by rw [Nat.mul_one] at ea; exact ea, wa⟩
    · exact h1 j hj
end

theorem okWide_bytes {W : World} {r : Reach} {b0 : Nat} {v : Value} (h : Value.okWide Tryd.prog W r b0 24 v) : ∃ xs : Array Value, v = .agg xs ∧ xs.size = 32 := by
  have hu : Tryd.prog.underlying 24 = some (.array 32 5) := Tryd.underlying24
  simp only [Value.okWide, hu] at h
  obtain ⟨cs, h1, h2, _⟩ := h
  refine ⟨cs, h1, ?_⟩
  rw [h2]
  kernel_rfl

theorem open_bytes {H : Type} {enc : TypeId × Value → H} {W : World} {base : Nat} {sp : Nat → Bool} {held : Bool} {xs : Array Value} (hn : xs.size = 32) {d : DataW H} {ps : List MemPlace}
    (hd : DataW.Trod enc Tryd.prog W base sp held 24 (.agg xs) d ps) : ∃ v, v < 2 ^ 256 ∧ xs = bytesA (fbytes v) ∧ ps = [] := by
  have hu : Tryd.prog.underlying 24 = some (.array 32 5) := Tryd.underlying24
  have hc : Tryd.prog.cellsOf 24 = 32 := by kernel_rfl
  have hc1 : Tryd.prog.cellsOf 5 = 1 := by kernel_rfl
  obtain ⟨fuel, hf⟩ := hd
  cases fuel with
  | zero => simp [DataW.trod] at hf
  | succ m =>
    rw [DataW.trod_step] at hf
    unfold DataW.trodStep at hf
    simp only [hu, Value.cells] at hf
    rw [if_pos (by rw [hc]; simpa using hn)] at hf
    simp only [Option.map_eq_some_iff, hc1] at hf
    obtain ⟨ys, hy, e1⟩ := hf
    obtain ⟨h1, h2⟩ := mapM_ints Tryd.underlying5 _ ys hy
    simp only [Prod.mk.injEq] at e1
    have hcell : ∀ i, i < 32 → ∃ x : UInt8, xs[i]? = some (.int .u8 (x.toNat : Int)) := fun i hi => by
      obtain ⟨a, ha, hw⟩ := h1 i (List.mem_range.2 hi)
      have h3 : 0 ≤ a ∧ a ≤ 255 := by simp [Lit.wf, IntKind.min, IntKind.max, IntKind.signed, IntKind.bits] at hw; omega
      have hx : xs.toList[i]? = some (.int .u8 a) := by
        have := congrArg (·[0]?) ha
        simpa [List.getElem?_take, List.getElem?_drop] using this
      refine ⟨UInt8.ofNat a.toNat, ?_⟩
      rw [← Array.getElem?_toList, hx]
      have : (UInt8.ofNat a.toNat).toNat = a.toNat := by rw [UInt8.toNat_ofNat']; omega
      rw [this]
      congr 2
      omega
    let l : List UInt8 := (List.range 32).map fun i => if h : i < 32 then Classical.choose (hcell i h) else 0
    have hl : l.length = 32 := by simp [l]
    obtain ⟨v, hv, hlv⟩ := fbytes_of l hl
    refine ⟨v, hv, ?_, by rw [← e1.2]; exact h2⟩
    rw [← hlv]
    apply Array.ext_getElem?
    intro i
    by_cases hi : i < 32
    · rw [Classical.choose_spec (hcell i hi), bytesA_get _ _ (by rw [hl]; exact hi)]
      have : l.getD i 0 = Classical.choose (hcell i hi) := by
        simp [l, List.getD, hi]
      rw [this]
    · rw [Array.getElem?_eq_none (by omega), Array.getElem?_eq_none (by rw [bytesA_size, hl]; omega)]
end Go.Proofs.YtebnkbeejkopaaaDoor
