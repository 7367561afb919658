/-
  A slice of values of the type api.Sexp that came in is a row of trees in memory. Conditions: each of its slices is within the form's own reach.
-/
import Derived.Test.YtaenahilnnlbfaaDoorOpenSx
set_option linter.unusedVariables false
namespace Go.Proofs.YtaenahilnnlbfaaDoor
open Go Go.Proofs Go.RowKit Sx
open Go.ChangeShapes Go.WideShapes Go.ChangeAt Go.Deep

section
variable {H : Type} {enc : TypeId × Value → H} {w : World} {held : Bool}

theorem open_sexps {fuel : Nat} {cs : List Value} {y4 : DataW H × List MemPlace} (g4 : DataW.trod enc Tryd.prog w 0 (fun _ => true) held fuel 23 cs = some y4)
    (w4 : ∀ y ∈ y4.1.weights Tryd.prog 23, y ≤ reachBytes) :
    ∃ A n c ks xs, cs = [.slice A n c] ∧ RIn w (fun _ => True) 5 A n xs ∧ n ≤ c ∧ n * 80 ≤ reachBytes ∧ ks.length = n ∧ Kids w (fun _ => True) ks xs ∧ nodesL ks ≤ Rows.uptoBulk y4.1 ∧ (formL ks).length ≤ 60 * Rows.uptoBulk y4.1 := by
  rcases DataW.trod_slice Tryd.underlying23 g4 with ⟨hcs, hy4⟩ | ⟨a, len, cap, elems, rest, m, hm, hcs, hy4, _, hle, hcm, hel, hall, _, _⟩
  · exact ⟨none, 0, 0, [], [], hcs, RIn.none_, Nat.le_refl _, by unfold reachBytes; omega, rfl, fun i t hit => by simp at hit, by rw [nodesL]; omega, by rw [formL]; simp⟩
  · have hc5 : Tryd.prog.cellsOf 25 = 5 := by kernel_rfl
    rw [hc5] at hall
    have hwk : ∀ (i : Nat) (y : DataW H × List MemPlace), elems[i]? = some y → ∀ z ∈ y.1.weights Tryd.prog 25, z ≤ reachBytes := by
      intro i y hy z hz
      apply w4
      rw [hy4]
      simp only [DataW.weights, Tryd.underlying23]
      have : ∀ (es : List (DataW H)) (y : DataW H), y ∈ es → ∀ z ∈ y.weights Tryd.prog 25, z ∈ DataW.weightsAll Tryd.prog 25 es := by
        intro es
        induction es with
        | nil => intro y hy; cases hy
        | cons e r ihr =>
          intro y hy z hz
          rw [DataW.weightsAll]
          rcases List.mem_cons.1 hy with rfl | hy
          · simp [hz]
          · simp [ihr y hy z hz]
      have hmem : y.1 ∈ elems.map (·.1) := List.mem_map.2 ⟨y, List.mem_of_getElem? hy, rfl⟩
      simp [this _ _ hmem z hz]
    have hlen80 : len * 80 ≤ reachBytes := by
      have h0 := w4 ((elems.length + rest.length) * Tryd.prog.bytesOf 25) (by rw [hy4]; simp [DataW.weights, Tryd.underlying23])
      have hb : Tryd.prog.bytesOf 25 = 80 := by kernel_rfl
      rw [hb] at h0
      have : len * 80 ≤ (elems.length + rest.length) * 80 := Nat.mul_le_mul_right _ (by omega)
      omega
    have each : ∀ i, i < len → ∃ cs' y, elems[i]? = some y ∧ w.cells? 0 (a.add (i * 5)) 5 = some cs' ∧ DataW.trod enc Tryd.prog w 0 (fun _ => true) held m 25 cs' = some y := by
      intro i hi
      have h0 := hall i hi
      rw [List.getElem?_eq_getElem (by omega)] at h0
      obtain ⟨cs', h1, h2⟩ := Option.bind_eq_some_iff.1 h0
      exact ⟨cs', _, List.getElem?_eq_getElem (by omega), h1, h2⟩
    obtain ⟨xs, hxs⟩ : ∃ xs : List Value, xs = (List.range (len * 5)).map fun j => (w.cell? (a.add j)).getD (.bool false) := ⟨_, rfl⟩
    have hxl : xs.length = len * 5 := by rw [hxs]; simp
    have hcell : ∀ i r, i < len → r < 5 → ∃ u, w.cell? (a.add (i * 5 + r)) = some u := by
      intro i r hi hr
      obtain ⟨cs', y, _, h1, _⟩ := each i hi
      obtain ⟨_, hcl, hat⟩ := World.cells?_some h1
      have := hat r hr
      rw [add_of_add] at this
      exact ⟨cs'[r]'(by omega), by rw [this]; exact List.getElem?_eq_getElem _⟩
    have hxat : ∀ j u, xs[j]? = some u → w.cell? (a.add j) = some u := by
      intro j u hu
      have hj : j < len * 5 := by rw [← hxl]; exact (List.getElem?_eq_some_iff.1 hu).1
      obtain ⟨v, hv⟩ := hcell (j / 5) (j % 5) (by omega) (by omega)
      rw [show j / 5 * 5 + j % 5 = j by omega] at hv
      rw [hxs] at hu
      simp [hj, hv] at hu
      rw [hv, hu]
    have hchunk : ∀ i cs', i < len → w.cells? 0 (a.add (i * 5)) 5 = some cs' → (xs.drop (i * 5)).take 5 = cs' := by
      intro i cs' hi h1
      obtain ⟨_, hcl, hat⟩ := World.cells?_some h1
      apply List.ext_getElem?
      intro r
      rw [List.getElem?_take]
      split
      · rename_i hr
        rw [List.getElem?_drop]
        have hj : i * 5 + r < xs.length := by rw [hxl]; omega
        have h2 := hxat (i * 5 + r) xs[i * 5 + r] (List.getElem?_eq_getElem hj)
        have h3 := hat r hr
        rw [add_of_add, h2] at h3
        rw [List.getElem?_eq_getElem hj]; exact h3
      · rw [List.getElem?_eq_none (by omega)]
    obtain ⟨ks, hkl, hks⟩ := choose_kids (n := len) (p := fun i t => SIn w (fun _ => True) t ((xs.drop (i * 5)).take 5) ∧ ∀ y, elems[i]? = some y → nodes t ≤ Rows.uptoBulk y.1 ∧ (form t).length ≤ 60 * Rows.uptoBulk y.1) (by
      intro i hi
      obtain ⟨cs', y, he, h1, h2⟩ := each i hi
      obtain ⟨t, ht, h3, h4⟩ := open_sexp m cs' y h2 (hwk i y he)
      refine ⟨t, by rw [hchunk i cs' hi h1]; exact ht, fun y' hy' => ?_⟩
      rw [he] at hy'
      injection hy' with hy'
      subst hy'
      exact ⟨h3, h4⟩)
    have hsum := bulk_kids ks (elems.map (·.1)) (by simp; omega) (fun i t y ht hy => by
      rw [List.getElem?_map] at hy
      obtain ⟨y', hy', rfl⟩ := Option.map_eq_some_iff.1 hy
      exact (hks i t ht).2 y' hy')
    have hb4 : Rows.uptoBulkAll (elems.map (·.1)) + 1 ≤ Rows.uptoBulk y4.1 := by rw [hy4, Rows.uptoBulk]; omega
    exact ⟨some a, len, cap, ks, xs, hcs, ⟨hxl, fun _ => ⟨a, rfl, trivial, hxat⟩⟩, hle, hlen80, hkl, fun i t hit => (hks i t hit).1, by omega, by omega⟩
end
end Go.Proofs.YtaenahilnnlbfaaDoor
